/- The program's sums, differences and products of intervals. -/
import Derived.Test.YtfnedaidljppnaaOpC
namespace Go.Proofs.Ytfnedaidljppnaa
open Go.RowKit Go.Iv
set_option linter.unusedSimpArgs false

/-- What an operation by corners tells of two intervals. -/
def corV (f : Int → Int → Int) (al ah bl bh : Int) : V := if al ≤ ah ∧ bl ≤ bh then spanL [f al bl, f al bh, f ah bl, f ah bh] else zeroV

set_option maxHeartbeats 1000000 in
theorem by0 (al ah bl bh : Int) (w : World) (hal : In al) (hah : In ah) (hbl : In bl) (hbh : In bh) : Calls Try.prog 45 #[.int .i64 0, .agg #[.int .i64 al, .int .i64 ah], .agg #[.int .i64 bl, .int .i64 bh]] w fun e w' => e = .returned (.agg #[.int .i64 (corV (fun x y => x + y) al ah bl bh).lo, .int .i64 (corV (fun x y => x + y) al ah bl bh).hi, .bool (corV (fun x y => x + y) al ah bl bh).live, .int .i64 (corV (fun x y => x + y) al ah bl bh).al]) ∧ Below w.heap.size w w' := by
  obtain ⟨V, hV⟩ : ∃ V, V = corV (fun x y => x + y) al ah bl bh := ⟨_, rfl⟩
  rw [← hV]
  by_cases h1 : al ≤ ah ∧ bl ≤ bh
  · have e1 : bothB al ah bl bh = true := decide_eq_true h1
    have e2 : Hid (V = spanL [al + bl, al + bh, ah + bl, ah + bh]) := hV.trans (if_pos h1)
    clear hV
    have HI : Hid (In al ∧ In ah ∧ In bl ∧ In bh) := ⟨hal, hah, hbl, hbh⟩
    clear h1 hal hah hbl hbh
    go_enter Try.func45, Try.ntmps45
    go_wp2_with fail
    refine (bothOk_c _ _ _ _ _).mono ?_
    rintro e w1 ⟨rfl, hb1⟩
    have B1 := hb1.mono (show w.heap.size + 3 ≤ _ by simp)
    clear hb1
    obtain ⟨hc1, hf1⟩ := bcellB B1
    have HB1 := hide B1
    clear B1
    go_wp2_with fail
    refine (wc0 _ [] _ _ _ _ w1.heap.size _ (World.ownsRow_nil _ _ _ _) (by decide) (Nat.le_refl _) HI.out.1 HI.out.2.1 HI.out.2.2.1 HI.out.2.2.2).mono ?_
    rintro e w2 ⟨v', rfl, hown, hb2⟩
    have B2 := (unhide HB1).trans (hb2.mono (by have := (unhide HB1).size; simp at this; omega))
    clear hb2 hc1 hf1 HB1
    have HB2 := hide B2
    clear B2
    go_wp2_with fail
    refine (spanOf_c _ (al + bl) [al + bh, ah + bl, ah + bh] _ _ hown (by simp)).mono ?_
    rintro e w3 ⟨rfl, hb3⟩
    have B3 := (unhide HB2).trans (hb3.mono (by have := (unhide HB2).size; simp at this; omega))
    clear hb3 HB2 hown
    obtain ⟨hc3, hf3⟩ := bcellB B3
    have K3 : Hid (Below w.heap.size w w3) := ((((Below.refl _ _).alloc (Nat.le_refl _) _).alloc (by simp) _).alloc (by simp; omega) _).trans (B3.mono (by omega))
    clear B3
    rw [← e2.out]
    go_wp2
    exact bodyPost_ret (v := .agg #[.int .i64 (V).lo, .int .i64 (V).hi, .bool (V).live, .int .i64 (V).al]) (by simp [results, Try.results45, go_sem, hc3]) rfl ⟨rfl, (((K3.out.setCell (by simp; omega) _).setCell (by simp; omega) _).setCell (by simp; omega) _).setCell (by simp; omega) _⟩
  · have e1 : bothB al ah bl bh = false := decide_eq_false h1
    have e2 : Hid (V = zeroV) := hV.trans (if_neg h1)
    clear hV
    clear h1 hal hah hbl hbh
    go_enter Try.func45, Try.ntmps45
    go_wp2_with fail
    refine (bothOk_c _ _ _ _ _).mono ?_
    rintro e w1 ⟨rfl, hb1⟩
    have B1 := hb1.mono (show w.heap.size + 3 ≤ _ by simp)
    clear hb1
    obtain ⟨hc1, hf1⟩ := bcellB B1
    have K1 : Hid (Below w.heap.size w w1) := ((((Below.refl _ _).alloc (Nat.le_refl _) _).alloc (by simp) _).alloc (by simp; omega) _).trans (B1.mono (by omega))
    clear B1
    go_wp2
    exact bodyPost_ret (v := .agg #[.int .i64 0, .int .i64 0, .bool false, .int .i64 0]) (by simp [results, Try.results45, go_sem, hc1]) rfl ⟨by rw [e2.out]; rfl, (((K1.out.setCell (by simp; omega) _).setCell (by simp; omega) _).setCell (by simp; omega) _).setCell (by simp; omega) _⟩

set_option maxHeartbeats 1000000 in
theorem by1 (al ah bl bh : Int) (w : World) (hal : In al) (hah : In ah) (hbl : In bl) (hbh : In bh) : Calls Try.prog 45 #[.int .i64 1, .agg #[.int .i64 al, .int .i64 ah], .agg #[.int .i64 bl, .int .i64 bh]] w fun e w' => e = .returned (.agg #[.int .i64 (corV (fun x y => x - y) al ah bl bh).lo, .int .i64 (corV (fun x y => x - y) al ah bl bh).hi, .bool (corV (fun x y => x - y) al ah bl bh).live, .int .i64 (corV (fun x y => x - y) al ah bl bh).al]) ∧ Below w.heap.size w w' := by
  obtain ⟨V, hV⟩ : ∃ V, V = corV (fun x y => x - y) al ah bl bh := ⟨_, rfl⟩
  rw [← hV]
  by_cases h1 : al ≤ ah ∧ bl ≤ bh
  · have e1 : bothB al ah bl bh = true := decide_eq_true h1
    have e2 : Hid (V = spanL [al - bl, al - bh, ah - bl, ah - bh]) := hV.trans (if_pos h1)
    clear hV
    have HI : Hid (In al ∧ In ah ∧ In bl ∧ In bh) := ⟨hal, hah, hbl, hbh⟩
    clear h1 hal hah hbl hbh
    go_enter Try.func45, Try.ntmps45
    go_wp2_with fail
    refine (bothOk_c _ _ _ _ _).mono ?_
    rintro e w1 ⟨rfl, hb1⟩
    have B1 := hb1.mono (show w.heap.size + 3 ≤ _ by simp)
    clear hb1
    obtain ⟨hc1, hf1⟩ := bcellB B1
    have HB1 := hide B1
    clear B1
    go_wp2_with fail
    refine (wc1 _ [] _ _ _ _ w1.heap.size _ (World.ownsRow_nil _ _ _ _) (by decide) (Nat.le_refl _) HI.out.1 HI.out.2.1 HI.out.2.2.1 HI.out.2.2.2).mono ?_
    rintro e w2 ⟨v', rfl, hown, hb2⟩
    have B2 := (unhide HB1).trans (hb2.mono (by have := (unhide HB1).size; simp at this; omega))
    clear hb2 hc1 hf1 HB1
    have HB2 := hide B2
    clear B2
    go_wp2_with fail
    refine (spanOf_c _ (al - bl) [al - bh, ah - bl, ah - bh] _ _ hown (by simp)).mono ?_
    rintro e w3 ⟨rfl, hb3⟩
    have B3 := (unhide HB2).trans (hb3.mono (by have := (unhide HB2).size; simp at this; omega))
    clear hb3 HB2 hown
    obtain ⟨hc3, hf3⟩ := bcellB B3
    have K3 : Hid (Below w.heap.size w w3) := ((((Below.refl _ _).alloc (Nat.le_refl _) _).alloc (by simp) _).alloc (by simp; omega) _).trans (B3.mono (by omega))
    clear B3
    rw [← e2.out]
    go_wp2
    exact bodyPost_ret (v := .agg #[.int .i64 (V).lo, .int .i64 (V).hi, .bool (V).live, .int .i64 (V).al]) (by simp [results, Try.results45, go_sem, hc3]) rfl ⟨rfl, (((K3.out.setCell (by simp; omega) _).setCell (by simp; omega) _).setCell (by simp; omega) _).setCell (by simp; omega) _⟩
  · have e1 : bothB al ah bl bh = false := decide_eq_false h1
    have e2 : Hid (V = zeroV) := hV.trans (if_neg h1)
    clear hV
    clear h1 hal hah hbl hbh
    go_enter Try.func45, Try.ntmps45
    go_wp2_with fail
    refine (bothOk_c _ _ _ _ _).mono ?_
    rintro e w1 ⟨rfl, hb1⟩
    have B1 := hb1.mono (show w.heap.size + 3 ≤ _ by simp)
    clear hb1
    obtain ⟨hc1, hf1⟩ := bcellB B1
    have K1 : Hid (Below w.heap.size w w1) := ((((Below.refl _ _).alloc (Nat.le_refl _) _).alloc (by simp) _).alloc (by simp; omega) _).trans (B1.mono (by omega))
    clear B1
    go_wp2
    exact bodyPost_ret (v := .agg #[.int .i64 0, .int .i64 0, .bool false, .int .i64 0]) (by simp [results, Try.results45, go_sem, hc1]) rfl ⟨by rw [e2.out]; rfl, (((K1.out.setCell (by simp; omega) _).setCell (by simp; omega) _).setCell (by simp; omega) _).setCell (by simp; omega) _⟩

set_option maxHeartbeats 1000000 in
theorem by2 (al ah bl bh : Int) (w : World) (hal : In al) (hah : In ah) (hbl : In bl) (hbh : In bh) : Calls Try.prog 45 #[.int .i64 2, .agg #[.int .i64 al, .int .i64 ah], .agg #[.int .i64 bl, .int .i64 bh]] w fun e w' => e = .returned (.agg #[.int .i64 (corV (fun x y => x * y) al ah bl bh).lo, .int .i64 (corV (fun x y => x * y) al ah bl bh).hi, .bool (corV (fun x y => x * y) al ah bl bh).live, .int .i64 (corV (fun x y => x * y) al ah bl bh).al]) ∧ Below w.heap.size w w' := by
  obtain ⟨V, hV⟩ : ∃ V, V = corV (fun x y => x * y) al ah bl bh := ⟨_, rfl⟩
  rw [← hV]
  by_cases h1 : al ≤ ah ∧ bl ≤ bh
  · have e1 : bothB al ah bl bh = true := decide_eq_true h1
    have e2 : Hid (V = spanL [al * bl, al * bh, ah * bl, ah * bh]) := hV.trans (if_pos h1)
    clear hV
    have HI : Hid (In al ∧ In ah ∧ In bl ∧ In bh) := ⟨hal, hah, hbl, hbh⟩
    clear h1 hal hah hbl hbh
    go_enter Try.func45, Try.ntmps45
    go_wp2_with fail
    refine (bothOk_c _ _ _ _ _).mono ?_
    rintro e w1 ⟨rfl, hb1⟩
    have B1 := hb1.mono (show w.heap.size + 3 ≤ _ by simp)
    clear hb1
    obtain ⟨hc1, hf1⟩ := bcellB B1
    have HB1 := hide B1
    clear B1
    go_wp2_with fail
    refine (wc2 _ [] _ _ _ _ w1.heap.size _ (World.ownsRow_nil _ _ _ _) (by decide) (Nat.le_refl _) HI.out.1 HI.out.2.1 HI.out.2.2.1 HI.out.2.2.2).mono ?_
    rintro e w2 ⟨v', rfl, hown, hb2⟩
    have B2 := (unhide HB1).trans (hb2.mono (by have := (unhide HB1).size; simp at this; omega))
    clear hb2 hc1 hf1 HB1
    have HB2 := hide B2
    clear B2
    go_wp2_with fail
    refine (spanOf_c _ (al * bl) [al * bh, ah * bl, ah * bh] _ _ hown (by simp)).mono ?_
    rintro e w3 ⟨rfl, hb3⟩
    have B3 := (unhide HB2).trans (hb3.mono (by have := (unhide HB2).size; simp at this; omega))
    clear hb3 HB2 hown
    obtain ⟨hc3, hf3⟩ := bcellB B3
    have K3 : Hid (Below w.heap.size w w3) := ((((Below.refl _ _).alloc (Nat.le_refl _) _).alloc (by simp) _).alloc (by simp; omega) _).trans (B3.mono (by omega))
    clear B3
    rw [← e2.out]
    go_wp2
    exact bodyPost_ret (v := .agg #[.int .i64 (V).lo, .int .i64 (V).hi, .bool (V).live, .int .i64 (V).al]) (by simp [results, Try.results45, go_sem, hc3]) rfl ⟨rfl, (((K3.out.setCell (by simp; omega) _).setCell (by simp; omega) _).setCell (by simp; omega) _).setCell (by simp; omega) _⟩
  · have e1 : bothB al ah bl bh = false := decide_eq_false h1
    have e2 : Hid (V = zeroV) := hV.trans (if_neg h1)
    clear hV
    clear h1 hal hah hbl hbh
    go_enter Try.func45, Try.ntmps45
    go_wp2_with fail
    refine (bothOk_c _ _ _ _ _).mono ?_
    rintro e w1 ⟨rfl, hb1⟩
    have B1 := hb1.mono (show w.heap.size + 3 ≤ _ by simp)
    clear hb1
    obtain ⟨hc1, hf1⟩ := bcellB B1
    have K1 : Hid (Below w.heap.size w w1) := ((((Below.refl _ _).alloc (Nat.le_refl _) _).alloc (by simp) _).alloc (by simp; omega) _).trans (B1.mono (by omega))
    clear B1
    go_wp2
    exact bodyPost_ret (v := .agg #[.int .i64 0, .int .i64 0, .bool false, .int .i64 0]) (by simp [results, Try.results45, go_sem, hc1]) rfl ⟨by rw [e2.out]; rfl, (((K1.out.setCell (by simp; omega) _).setCell (by simp; omega) _).setCell (by simp; omega) _).setCell (by simp; omega) _⟩

theorem IvAdd_c (al ah bl bh : Int) (hal : In al) (hah : In ah) (hbl : In bl) (hbh : In bh) (w : World) : Calls Try.prog 23 #[.agg #[.int .i64 al, .int .i64 ah], .agg #[.int .i64 bl, .int .i64 bh]] w fun e w' => e = .returned (.agg #[.int .i64 (corV (fun x y => x + y) al ah bl bh).lo, .int .i64 (corV (fun x y => x + y) al ah bl bh).hi, .bool (corV (fun x y => x + y) al ah bl bh).live, .int .i64 (corV (fun x y => x + y) al ah bl bh).al]) ∧ Below w.heap.size w w' := by
  have HI : Hid (In al ∧ In ah ∧ In bl ∧ In bh) := ⟨hal, hah, hbl, hbh⟩
  clear hal hah hbl hbh
  obtain ⟨V, hV⟩ : ∃ V, V = corV (fun x y => x + y) al ah bl bh := ⟨_, rfl⟩
  rw [← hV]
  have HV := hide hV
  clear hV
  go_enter Try.func23, Try.ntmps23
  go_wp2_with fail
  refine (by0 _ _ _ _ _ HI.out.1 HI.out.2.1 HI.out.2.2.1 HI.out.2.2.2).mono ?_
  rintro e w1 ⟨rfl, hb1⟩
  have B1 := hb1.mono (show w.heap.size + 3 ≤ _ by simp)
  clear hb1
  obtain ⟨hc1, hf1⟩ := bcellB B1
  have K1 : Hid (Below w.heap.size w w1) := ((((Below.refl _ _).alloc (Nat.le_refl _) _).alloc (by simp) _).alloc (by simp; omega) _).trans (B1.mono (by omega))
  clear B1
  rw [← unhide HV]
  go_wp2
  exact bodyPost_ret (v := .agg #[.int .i64 (V).lo, .int .i64 (V).hi, .bool (V).live, .int .i64 (V).al]) (by simp [results, Try.results23, go_sem, hc1]) rfl ⟨rfl, (((K1.out.setCell (by simp; omega) _).setCell (by simp; omega) _).setCell (by simp; omega) _).setCell (by simp; omega) _⟩
theorem IvSub_c (al ah bl bh : Int) (hal : In al) (hah : In ah) (hbl : In bl) (hbh : In bh) (w : World) : Calls Try.prog 25 #[.agg #[.int .i64 al, .int .i64 ah], .agg #[.int .i64 bl, .int .i64 bh]] w fun e w' => e = .returned (.agg #[.int .i64 (corV (fun x y => x - y) al ah bl bh).lo, .int .i64 (corV (fun x y => x - y) al ah bl bh).hi, .bool (corV (fun x y => x - y) al ah bl bh).live, .int .i64 (corV (fun x y => x - y) al ah bl bh).al]) ∧ Below w.heap.size w w' := by
  have HI : Hid (In al ∧ In ah ∧ In bl ∧ In bh) := ⟨hal, hah, hbl, hbh⟩
  clear hal hah hbl hbh
  obtain ⟨V, hV⟩ : ∃ V, V = corV (fun x y => x - y) al ah bl bh := ⟨_, rfl⟩
  rw [← hV]
  have HV := hide hV
  clear hV
  go_enter Try.func25, Try.ntmps25
  go_wp2_with fail
  refine (by1 _ _ _ _ _ HI.out.1 HI.out.2.1 HI.out.2.2.1 HI.out.2.2.2).mono ?_
  rintro e w1 ⟨rfl, hb1⟩
  have B1 := hb1.mono (show w.heap.size + 3 ≤ _ by simp)
  clear hb1
  obtain ⟨hc1, hf1⟩ := bcellB B1
  have K1 : Hid (Below w.heap.size w w1) := ((((Below.refl _ _).alloc (Nat.le_refl _) _).alloc (by simp) _).alloc (by simp; omega) _).trans (B1.mono (by omega))
  clear B1
  rw [← unhide HV]
  go_wp2
  exact bodyPost_ret (v := .agg #[.int .i64 (V).lo, .int .i64 (V).hi, .bool (V).live, .int .i64 (V).al]) (by simp [results, Try.results25, go_sem, hc1]) rfl ⟨rfl, (((K1.out.setCell (by simp; omega) _).setCell (by simp; omega) _).setCell (by simp; omega) _).setCell (by simp; omega) _⟩
theorem IvMul_c (al ah bl bh : Int) (hal : In al) (hah : In ah) (hbl : In bl) (hbh : In bh) (w : World) : Calls Try.prog 27 #[.agg #[.int .i64 al, .int .i64 ah], .agg #[.int .i64 bl, .int .i64 bh]] w fun e w' => e = .returned (.agg #[.int .i64 (corV (fun x y => x * y) al ah bl bh).lo, .int .i64 (corV (fun x y => x * y) al ah bl bh).hi, .bool (corV (fun x y => x * y) al ah bl bh).live, .int .i64 (corV (fun x y => x * y) al ah bl bh).al]) ∧ Below w.heap.size w w' := by
  have HI : Hid (In al ∧ In ah ∧ In bl ∧ In bh) := ⟨hal, hah, hbl, hbh⟩
  clear hal hah hbl hbh
  obtain ⟨V, hV⟩ : ∃ V, V = corV (fun x y => x * y) al ah bl bh := ⟨_, rfl⟩
  rw [← hV]
  have HV := hide hV
  clear hV
  go_enter Try.func27, Try.ntmps27
  go_wp2_with fail
  refine (by2 _ _ _ _ _ HI.out.1 HI.out.2.1 HI.out.2.2.1 HI.out.2.2.2).mono ?_
  rintro e w1 ⟨rfl, hb1⟩
  have B1 := hb1.mono (show w.heap.size + 3 ≤ _ by simp)
  clear hb1
  obtain ⟨hc1, hf1⟩ := bcellB B1
  have K1 : Hid (Below w.heap.size w w1) := ((((Below.refl _ _).alloc (Nat.le_refl _) _).alloc (by simp) _).alloc (by simp; omega) _).trans (B1.mono (by omega))
  clear B1
  rw [← unhide HV]
  go_wp2
  exact bodyPost_ret (v := .agg #[.int .i64 (V).lo, .int .i64 (V).hi, .bool (V).live, .int .i64 (V).al]) (by simp [results, Try.results27, go_sem, hc1]) rfl ⟨rfl, (((K1.out.setCell (by simp; omega) _).setCell (by simp; omega) _).setCell (by simp; omega) _).setCell (by simp; omega) _⟩
end Go.Proofs.Ytfnedaidljppnaa
