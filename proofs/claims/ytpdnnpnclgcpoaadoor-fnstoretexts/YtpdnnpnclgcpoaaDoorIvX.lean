/- What the program's and the specification's plain functions on intervals answer. -/
import Derived.Test.YtpdnnpnclgcpoaaDoorNaZ
import Derived.ProofKit
import Derived.Deep.RegionHeld3
namespace Go.Proofs.YtpdnnpnclgcpoaaDoor
open Go.RowKit
set_option linter.unusedSimpArgs false


/-- All old cells, all old marks read as before. -/
theorem bcell {W w1 : World} (hb : Below W.heap.size W w1) : (∀ b o, b < W.heap.size → w1.cell? ⟨b, o, none⟩ = W.cell? ⟨b, o, none⟩) ∧ (∀ b o, b < W.heap.size → w1.frozen? ⟨b, o, none⟩ = W.frozen? ⟨b, o, none⟩) :=
  ⟨fun b o h => hb.cell (p := ⟨b, o, none⟩) h, fun b o h => hb.frozen (p := ⟨b, o, none⟩) h⟩
theorem bcellB {B : Nat} {W w1 : World} (hb : Below B W w1) : (∀ b o, b < B → w1.cell? ⟨b, o, none⟩ = W.cell? ⟨b, o, none⟩) ∧ (∀ b o, b < B → w1.frozen? ⟨b, o, none⟩ = W.frozen? ⟨b, o, none⟩) :=
  ⟨fun b o h => hb.cell (p := ⟨b, o, none⟩) h, fun b o h => hb.frozen (p := ⟨b, o, none⟩) h⟩
/-- The lesser and the greater one of two, as the program tells them. -/
def mn (x y : Int) : Int := if y < x then y else x
def mx (x y : Int) : Int := if x < y then y else x
theorem mn_eq (x y : Int) : mn x y = min x y := by unfold mn; split <;> omega
theorem mx_eq (x y : Int) : mx x y = max x y := by unfold mx; split <;> omega
theorem hmn (x y : Int) : (if y < x then y else x) = mn x y := rfl
theorem hmx (x y : Int) : (if x < y then y else x) = mx x y := rfl
theorem ret_bool {a b : Bool} (h : a = b) : Ending.returned (.bool a) = .returned (.bool b) := by rw [h]

def leqB (al ah bl bh : Int) : Bool := decide (al ≤ ah ∧ bl ≤ bh ∧ bl ≤ al ∧ ah ≤ bh)
def hasB (l h n : Int) : Bool := decide (l ≤ n ∧ n ≤ h)
def joinL (al ah bl bh : Int) : Int := if al ≤ ah ∧ bl ≤ bh then mn al bl else 0
def joinH (al ah bl bh : Int) : Int := if al ≤ ah ∧ bl ≤ bh then mx ah bh else 0
/-- What two intervals both have: where one is not right, or there is nothing, the ends are the wrong way round. -/
def meetB (al ah bl bh : Int) : Bool := decide (mx al bl ≤ mn ah bh)
def meetL (al ah bl bh : Int) : Int := if mx al bl ≤ mn ah bh then mx al bl else 0
def meetH (al ah bl bh : Int) : Int := if mx al bl ≤ mn ah bh then mn ah bh else 0
def okB (l h : Int) : Bool := decide (l ≤ h)
def bothB (al ah bl bh : Int) : Bool := decide (al ≤ ah ∧ bl ≤ bh)

theorem IvOk_c (l h : Int) (w : World) : Calls Tryd.prog 92 #[.agg #[.int .i64 l, .int .i64 h]] w fun e w' => e = .returned (.bool (okB l h)) ∧ Below w.heap.size w w' := by
  go_enter Tryd.func92, Tryd.ntmps92
  go_wp2
  go_ret
  exact ⟨rfl, (Below.refl _ _).alloc (Nat.le_refl _) _⟩
theorem sIvOk_c (l h : Int) (w : World) : Calls Tryd.prog 75 #[.agg #[.int .i64 l, .int .i64 h]] w fun e w' => e = .returned (.bool (okB l h)) ∧ Below w.heap.size w w' := by
  go_enter Tryd.func75, Tryd.ntmps75
  go_wp2
  go_ret
  exact ⟨rfl, (Below.refl _ _).alloc (Nat.le_refl _) _⟩
theorem IvHas_c (l h n : Int) (w : World) : Calls Tryd.prog 114 #[.agg #[.int .i64 l, .int .i64 h], .int .i64 n] w fun e w' => e = .returned (.bool (hasB l h n)) ∧ Below w.heap.size w w' := by
  by_cases h1 : l ≤ n
  · go_enter Tryd.func114, Tryd.ntmps114
    go_wp2
    go_ret
    exact ⟨ret_bool (by unfold hasB; simp [h1]), (Below.refl _ _).alloc (Nat.le_refl _) _⟩
  · go_enter Tryd.func114, Tryd.ntmps114
    go_wp2
    go_ret
    exact ⟨ret_bool (by unfold hasB; simp; omega), (Below.refl _ _).alloc (Nat.le_refl _) _⟩
theorem sIvHas_c (l h n : Int) (w : World) : Calls Tryd.prog 83 #[.agg #[.int .i64 l, .int .i64 h], .int .i64 n] w fun e w' => e = .returned (.bool (hasB l h n)) ∧ Below w.heap.size w w' := by
  by_cases h1 : l ≤ n
  · go_enter Tryd.func83, Tryd.ntmps83
    go_wp2
    go_ret
    exact ⟨ret_bool (by unfold hasB; simp [h1]), (Below.refl _ _).alloc (Nat.le_refl _) _⟩
  · go_enter Tryd.func83, Tryd.ntmps83
    go_wp2
    go_ret
    exact ⟨ret_bool (by unfold hasB; simp; omega), (Below.refl _ _).alloc (Nat.le_refl _) _⟩
theorem bothOk_c (al ah bl bh : Int) (w : World) : Calls Tryd.prog 121 #[.agg #[.int .i64 al, .int .i64 ah], .agg #[.int .i64 bl, .int .i64 bh]] w fun e w' => e = .returned (.bool (bothB al ah bl bh)) ∧ Below w.heap.size w w' := by
  by_cases h1 : al ≤ ah
  · have e1 : okB al ah = true := decide_eq_true h1
    have e2 : Hid (bothB al ah bl bh = okB bl bh) := by unfold bothB okB Hid; simp [h1]
    go_enter Tryd.func121, Tryd.ntmps121
    go_wp2_with fail
    refine (IvOk_c _ _ _).mono ?_
    rintro e w1 ⟨rfl, hb1⟩
    obtain ⟨hc1, hf1⟩ := bcell hb1
    have K1 : Hid (Below w.heap.size w w1) := (((Below.refl _ _).alloc (Nat.le_refl _) _).alloc (by simp) _).trans (hb1.mono (by simp; omega))
    clear hb1
    go_wp2_with fail
    refine (IvOk_c _ _ _).mono ?_
    rintro e w2 ⟨rfl, hb2⟩
    have K2 : Hid (Below w.heap.size w w2) := K1.out.trans (hb2.mono K1.out.size)
    clear hb2
    go_wp2
    go_ret
    exact ⟨ret_bool (by rw [e2.out]), K2.out⟩
  · have e1 : okB al ah = false := decide_eq_false h1
    have e2 : Hid (bothB al ah bl bh = false) := by unfold bothB Hid; simp [h1]
    go_enter Tryd.func121, Tryd.ntmps121
    go_wp2_with fail
    refine (IvOk_c _ _ _).mono ?_
    rintro e w1 ⟨rfl, hb1⟩
    have K1 : Hid (Below w.heap.size w w1) := (((Below.refl _ _).alloc (Nat.le_refl _) _).alloc (by simp) _).trans (hb1.mono (by simp; omega))
    clear hb1
    go_wp2
    go_ret
    exact ⟨ret_bool (by rw [e2.out]), K1.out⟩
theorem IvLeq_c (al ah bl bh : Int) (w : World) : Calls Tryd.prog 122 #[.agg #[.int .i64 al, .int .i64 ah], .agg #[.int .i64 bl, .int .i64 bh]] w fun e w' => e = .returned (.bool (leqB al ah bl bh)) ∧ Below w.heap.size w w' := by
  by_cases h1 : al ≤ ah ∧ bl ≤ bh
  · have e1 : bothB al ah bl bh = true := decide_eq_true h1
    obtain ⟨h1, h2⟩ := h1
    by_cases h3 : bl ≤ al
    · have e2 : Hid (leqB al ah bl bh = decide (ah ≤ bh)) := by unfold leqB Hid; simp [h1, h2, h3]
      clear h1 h2
      go_enter Tryd.func122, Tryd.ntmps122
      go_wp2_with fail
      refine (bothOk_c _ _ _ _ _).mono ?_
      rintro e w1 ⟨rfl, hb1⟩
      obtain ⟨hc1, hf1⟩ := bcell hb1
      have K1 : Hid (Below w.heap.size w w1) := (((Below.refl _ _).alloc (Nat.le_refl _) _).alloc (by simp) _).trans (hb1.mono (by simp; omega))
      clear hb1
      go_wp2
      go_ret
      exact ⟨ret_bool (by rw [e2.out]), K1.out⟩
    · have e2 : Hid (leqB al ah bl bh = false) := by unfold leqB Hid; simp; omega
      clear h1 h2
      go_enter Tryd.func122, Tryd.ntmps122
      go_wp2_with fail
      refine (bothOk_c _ _ _ _ _).mono ?_
      rintro e w1 ⟨rfl, hb1⟩
      obtain ⟨hc1, hf1⟩ := bcell hb1
      have K1 : Hid (Below w.heap.size w w1) := (((Below.refl _ _).alloc (Nat.le_refl _) _).alloc (by simp) _).trans (hb1.mono (by simp; omega))
      clear hb1
      go_wp2
      go_ret
      exact ⟨ret_bool (by rw [e2.out]), K1.out⟩
  · have e1 : bothB al ah bl bh = false := decide_eq_false h1
    have e2 : Hid (leqB al ah bl bh = false) := by unfold leqB Hid; simp; omega
    clear h1
    go_enter Tryd.func122, Tryd.ntmps122
    go_wp2_with fail
    refine (bothOk_c _ _ _ _ _).mono ?_
    rintro e w1 ⟨rfl, hb1⟩
    have K1 : Hid (Below w.heap.size w w1) := (((Below.refl _ _).alloc (Nat.le_refl _) _).alloc (by simp) _).trans (hb1.mono (by simp; omega))
    clear hb1
    go_wp2
    go_ret
    exact ⟨ret_bool (by rw [e2.out]), K1.out⟩
theorem sIvLeq_c (al ah bl bh : Int) (w : World) : Calls Tryd.prog 123 #[.agg #[.int .i64 al, .int .i64 ah], .agg #[.int .i64 bl, .int .i64 bh]] w fun e w' => e = .returned (.bool (leqB al ah bl bh)) ∧ Below w.heap.size w w' := by
  by_cases h1 : al ≤ ah
  · have e1 : okB al ah = true := decide_eq_true h1
    by_cases h2 : bl ≤ bh
    · have e2 : okB bl bh = true := decide_eq_true h2
      by_cases h3 : bl ≤ al
      · have e3 : Hid (leqB al ah bl bh = decide (ah ≤ bh)) := by unfold leqB Hid; simp [h1, h2, h3]
        clear h1 h2
        go_enter Tryd.func123, Tryd.ntmps123
        go_wp2_with fail
        refine (sIvOk_c _ _ _).mono ?_
        rintro e w1 ⟨rfl, hb1⟩
        have B1 := hb1.mono (show w.heap.size + 2 ≤ _ by simp)
        clear hb1
        obtain ⟨hc1, hf1⟩ := bcellB B1
        have HB1 := hide B1
        clear B1
        go_wp2_with fail
        refine (sIvOk_c _ _ _).mono ?_
        rintro e w2 ⟨rfl, hb2⟩
        have B2 := (unhide HB1).trans (hb2.mono (by have := (unhide HB1).size; simp at this; omega))
        obtain ⟨hc2, hf2⟩ := bcellB B2
        have K2 : Hid (Below w.heap.size w w2) := (((Below.refl _ _).alloc (Nat.le_refl _) _).alloc (by simp) _).trans (B2.mono (by omega))
        clear hb2 hc1 hf1 HB1 B2
        go_wp2
        go_ret
        exact ⟨ret_bool (by rw [e3.out]), K2.out⟩
      · have e3 : Hid (leqB al ah bl bh = false) := by unfold leqB Hid; simp; omega
        clear h1 h2
        go_enter Tryd.func123, Tryd.ntmps123
        go_wp2_with fail
        refine (sIvOk_c _ _ _).mono ?_
        rintro e w1 ⟨rfl, hb1⟩
        have B1 := hb1.mono (show w.heap.size + 2 ≤ _ by simp)
        clear hb1
        obtain ⟨hc1, hf1⟩ := bcellB B1
        have HB1 := hide B1
        clear B1
        go_wp2_with fail
        refine (sIvOk_c _ _ _).mono ?_
        rintro e w2 ⟨rfl, hb2⟩
        have B2 := (unhide HB1).trans (hb2.mono (by have := (unhide HB1).size; simp at this; omega))
        obtain ⟨hc2, hf2⟩ := bcellB B2
        have K2 : Hid (Below w.heap.size w w2) := (((Below.refl _ _).alloc (Nat.le_refl _) _).alloc (by simp) _).trans (B2.mono (by omega))
        clear hb2 hc1 hf1 HB1 B2
        go_wp2
        go_ret
        exact ⟨ret_bool (by rw [e3.out]), K2.out⟩
    · have e2 : okB bl bh = false := decide_eq_false h2
      have e3 : Hid (leqB al ah bl bh = false) := by unfold leqB Hid; simp; omega
      clear h1 h2
      go_enter Tryd.func123, Tryd.ntmps123
      go_wp2_with fail
      refine (sIvOk_c _ _ _).mono ?_
      rintro e w1 ⟨rfl, hb1⟩
      obtain ⟨hc1, hf1⟩ := bcell hb1
      have K1 : Hid (Below w.heap.size w w1) := (((Below.refl _ _).alloc (Nat.le_refl _) _).alloc (by simp) _).trans (hb1.mono (by simp; omega))
      clear hb1
      go_wp2_with fail
      refine (sIvOk_c _ _ _).mono ?_
      rintro e w2 ⟨rfl, hb2⟩
      have K2 : Hid (Below w.heap.size w w2) := K1.out.trans (hb2.mono K1.out.size)
      clear hb2
      go_wp2
      go_ret
      exact ⟨ret_bool (by rw [e3.out]), K2.out⟩
  · have e1 : okB al ah = false := decide_eq_false h1
    have e3 : Hid (leqB al ah bl bh = false) := by unfold leqB Hid; simp; omega
    clear h1
    go_enter Tryd.func123, Tryd.ntmps123
    go_wp2_with fail
    refine (sIvOk_c _ _ _).mono ?_
    rintro e w1 ⟨rfl, hb1⟩
    have K1 : Hid (Below w.heap.size w w1) := (((Below.refl _ _).alloc (Nat.le_refl _) _).alloc (by simp) _).trans (hb1.mono (by simp; omega))
    clear hb1
    go_wp2
    go_ret
    exact ⟨ret_bool (by rw [e3.out]), K1.out⟩
theorem IvJoin_c (al ah bl bh : Int) (w : World) : Calls Tryd.prog 94 #[.agg #[.int .i64 al, .int .i64 ah], .agg #[.int .i64 bl, .int .i64 bh]] w fun e w' => e = .returned (.agg #[.int .i64 (joinL al ah bl bh), .int .i64 (joinH al ah bl bh)]) ∧ Below w.heap.size w w' := by
  by_cases h1 : al ≤ ah ∧ bl ≤ bh
  · have e1 : bothB al ah bl bh = true := decide_eq_true h1
    have e2 : Hid (joinL al ah bl bh = mn al bl ∧ joinH al ah bl bh = mx ah bh) := ⟨if_pos h1, if_pos h1⟩
    have q1 := hmn al bl
    have q2 := hmx ah bh
    clear h1
    go_enter Tryd.func94, Tryd.ntmps94
    go_wp2_with fail
    refine (bothOk_c _ _ _ _ _).mono ?_
    rintro e w1 ⟨rfl, hb1⟩
    obtain ⟨hc1, hf1⟩ := bcell hb1
    have K1 : Hid (Below w.heap.size w w1) := ((((Below.refl _ _).alloc (Nat.le_refl _) _).alloc (by simp) _).alloc (by simp; omega) _).trans (hb1.mono (by simp; omega))
    have z1 : w.heap.size + 2 < w1.heap.size := by have := hb1.size; simp at this; omega
    clear hb1
    go_wp2
    refine bodyPost_ret (v := .agg #[.int .i64 (mn al bl), .int .i64 (mx ah bh)]) (by simp [results, Tryd.results94, go_sem, z1, hc1]) rfl ⟨by rw [e2.out.1, e2.out.2], (K1.out.setCell (by simp; omega) _).setCell (by simp; omega) _⟩
  · have e1 : bothB al ah bl bh = false := decide_eq_false h1
    have e2 : Hid (joinL al ah bl bh = 0 ∧ joinH al ah bl bh = 0) := ⟨if_neg h1, if_neg h1⟩
    clear h1
    go_enter Tryd.func94, Tryd.ntmps94
    go_wp2_with fail
    refine (bothOk_c _ _ _ _ _).mono ?_
    rintro e w1 ⟨rfl, hb1⟩
    obtain ⟨hc1, hf1⟩ := bcell hb1
    have K1 : Hid (Below w.heap.size w w1) := ((((Below.refl _ _).alloc (Nat.le_refl _) _).alloc (by simp) _).alloc (by simp; omega) _).trans (hb1.mono (by simp; omega))
    have z1 : w.heap.size + 2 < w1.heap.size := by have := hb1.size; simp at this; omega
    clear hb1
    go_wp2
    refine bodyPost_ret (v := .agg #[.int .i64 0, .int .i64 0]) (by simp [results, Tryd.results94, go_sem, z1, hc1]) rfl ⟨by rw [e2.out.1, e2.out.2], (K1.out.setCell (by simp; omega) _).setCell (by simp; omega) _⟩
theorem l2Join_c (al ah bl bh : Int) (w : World) : Calls Tryd.prog 102 #[.agg #[.int .i64 al, .int .i64 ah], .agg #[.int .i64 bl, .int .i64 bh]] w fun e w' => e = .returned (.agg #[.int .i64 (mn al bl), .int .i64 (mx ah bh)]) ∧ Below w.heap.size w w' := by
  have q1 := hmn al bl
  have q2 := hmx ah bh
  go_enter Tryd.func102, Tryd.ntmps102
  go_wp2
  exact bodyPost_ret (v := .agg #[.int .i64 (mn al bl), .int .i64 (mx ah bh)]) (by simp [results, Tryd.results102, go_sem]) rfl ⟨rfl, ((Below.refl _ _).alloc (Nat.le_refl _) _).alloc (by simp) _ |>.alloc (by simp; omega) _⟩
end Go.Proofs.YtpdnnpnclgcpoaaDoor
