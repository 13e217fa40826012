/- The laws' own helpers on intervals; the specification's meet. -/
import Derived.Test.YtlgjbfkhajphdaaIvC
import Derived.Deep.RegionHeld3
import Derived.Deep.DeepCutAuto
import Derived.Deep.DrawnRows
namespace Go.Proofs.Ytlgjbfkhajphdaa
open Go.RowKit Go.Iv
set_option linter.unusedSimpArgs false

/-- Two pairs of numbers lie in the blocks B and B + 1 of the call's own; below M all is as it was. -/
@[reducible] def S2 (w0 : World) (M B : Nat) (x0 y0 x1 y1 : Int) (w : World) : Prop :=
  w.cell? ⟨B, 0, none⟩ = some (.int .i64 x0) ∧ w.cell? ⟨B, 1, none⟩ = some (.int .i64 y0) ∧ w.cell? ⟨B + 1, 0, none⟩ = some (.int .i64 x1) ∧ w.cell? ⟨B + 1, 1, none⟩ = some (.int .i64 y1) ∧ Below M w0 w ∧ M ≤ w.heap.size ∧ B + 2 ≤ w.heap.size
theorem S2.drew {w0 w : World} {M B : Nat} {x0 y0 x1 y1 : Int} (h : S2 w0 M B x0 y0 x1 y1 w) : S2 w0 M B x0 y0 x1 y1 w.drew := ⟨h.1, h.2.1, h.2.2.1, h.2.2.2.1, h.2.2.2.2.1.drew, h.2.2.2.2.2⟩
theorem S2.call {w0 w w1 : World} {M B : Nat} {x0 y0 x1 y1 : Int} (hb : Below w.heap.size w w1) (h : S2 w0 M B x0 y0 x1 y1 w) : S2 w0 M B x0 y0 x1 y1 w1 := by
  obtain ⟨a, b, c, d, e, f, k⟩ := h
  have g := hb.size
  exact ⟨(hb.cell (by show B < _; omega)).trans a, (hb.cell (by show B < _; omega)).trans b, (hb.cell (by show B + 1 < _; omega)).trans c, (hb.cell (by show B + 1 < _; omega)).trans d, e.trans (hb.mono f), by omega, by omega⟩
theorem S2.alloc {w0 w : World} {M B : Nat} {x0 y0 x1 y1 : Int} (h : S2 w0 M B x0 y0 x1 y1 w) (o : Obj) : S2 w0 M B x0 y0 x1 y1 (w.alloc o) :=
  S2.call ((Below.refl _ _).alloc (Nat.le_refl _) o) h
theorem S2.set {w0 w : World} {M B b o : Nat} {x0 y0 x1 y1 : Int} (h : S2 w0 M B x0 y0 x1 y1 w) (hb : B + 2 ≤ b) (hm : M ≤ b) (v : Value) : S2 w0 M B x0 y0 x1 y1 (w.setCell ⟨b, o, none⟩ v) := by
  have k : Below b w (w.setCell ⟨b, o, none⟩ v) := (Below.refl b w).setCell (p := ⟨b, o, none⟩) (Nat.le_refl _) v
  obtain ⟨a, b, c, d, e, f, g⟩ := h
  exact ⟨(k.cell (by show B < _; omega)).trans a, (k.cell (by show B < _; omega)).trans b, (k.cell (by show B + 1 < _; omega)).trans c, (k.cell (by show B + 1 < _; omega)).trans d, e.trans (k.mono hm), Nat.le_trans f k.size, Nat.le_trans g k.size⟩
/-- A pair that was stored lies there. -/
theorem set2_at {w : World} {b : Nat} {v0 v1 x y : Value} (h0 : w.cell? ⟨b, 0, none⟩ = some v0) (h1 : w.cell? ⟨b, 1, none⟩ = some v1) :
    ((w.setCell ⟨b, 0, none⟩ x).setCell ⟨b, 1, none⟩ y).cell? ⟨b, 0, none⟩ = some x ∧ ((w.setCell ⟨b, 0, none⟩ x).setCell ⟨b, 1, none⟩ y).cell? ⟨b, 1, none⟩ = some y ∧ b < ((w.setCell ⟨b, 0, none⟩ x).setCell ⟨b, 1, none⟩ y).heap.size := by
  have hlt := World.block_lt_of_cell? w _ h0
  refine ⟨?_, ?_, ?_⟩
  · simp [go_sem, h0, h1]
  · simp [go_sem, h0, h1]
  · simpa [World.setCell] using hlt

/-- An answer of two numbers lies in a block of its own beside the two pairs. -/
def Res2 (w0 : World) (M B : Nat) (x0 y0 x1 y1 : Int) (p : Value) (x y : Int) (w : World) : Prop :=
  ∃ b, p = .pointer (some ⟨b, 0, none⟩) ∧ (w.cell? ⟨b, 0, none⟩ = some (.int .i64 x) ∧ w.cell? ⟨b, 1, none⟩ = some (.int .i64 y)) ∧ B + 2 ≤ b ∧ b < w.heap.size ∧ S2 w0 M B x0 y0 x1 y1 w
theorem Res2.new {w0 w : World} {M B : Nat} {x0 y0 x1 y1 : Int} (h : S2 w0 M B x0 y0 x1 y1 w) (x y : Int) (t : TypeId) :
    Res2 w0 M B x0 y0 x1 y1 (.pointer (some ⟨w.heap.size, 0, none⟩)) x y (w.alloc (.cells #[.int .i64 x, .int .i64 y] t)) :=
  ⟨_, rfl, ⟨by simp, by simp⟩, h.2.2.2.2.2.2, by simp, S2.alloc h _⟩
theorem Res2.set {w0 w : World} {M B b : Nat} {x0 y0 x1 y1 : Int} {v0 v1 : Value} (h : S2 w0 M B x0 y0 x1 y1 w) (hb : B + 2 ≤ b) (hm : M ≤ b) (h0 : w.cell? ⟨b, 0, none⟩ = some v0) (h1 : w.cell? ⟨b, 1, none⟩ = some v1) (x y : Int) :
    Res2 w0 M B x0 y0 x1 y1 (.pointer (some ⟨b, 0, none⟩)) x y ((w.setCell ⟨b, 0, none⟩ (.int .i64 x)).setCell ⟨b, 1, none⟩ (.int .i64 y)) :=
  ⟨b, rfl, ⟨(set2_at h0 h1).1, (set2_at h0 h1).2.1⟩, hb, (set2_at h0 h1).2.2, S2.set (S2.set h hb hm _) hb hm _⟩

theorem toInterval_c (l h : Int) (w : World) : Calls Try.prog 5 #[.agg #[.int .i64 l, .int .i64 h]] w fun e w' => e = .returned (.agg #[.int .i64 l, .int .i64 h]) ∧ ∃ o1 o2 o3, w' = ((w.alloc o1).alloc o2).alloc o3 := by
  go_enter Try.func5, Try.ntmps5
  go_wp2
  exact bodyPost_ret (v := .agg #[.int .i64 l, .int .i64 h]) (by simp [results, Try.results5, go_sem]) rfl ⟨rfl, _, _, _, rfl⟩
theorem eqInterval_c (l h : Int) (w : World) : Calls Try.prog 7 #[.agg #[.int .i64 l, .int .i64 h], .agg #[.int .i64 l, .int .i64 h]] w fun e w' => e = .returned (.bool true) ∧ Below w.heap.size w w' := by
  go_enter Try.func7, Try.ntmps7
  go_wp2
  go_ret
  exact ⟨rfl, ((Below.refl _ _).alloc (Nat.le_refl _) _).alloc (by simp) _⟩
theorem meet_bad (al ah bl bh : Int) (h : ¬ al ≤ ah ∨ ¬ bl ≤ bh) : ¬ mx al bl ≤ mn ah bh := by
  rw [mx_eq, mn_eq]; omega
theorem sIvMeet_c (al ah bl bh : Int) (w : World) : Calls Try.prog 10 #[.agg #[.int .i64 al, .int .i64 ah], .agg #[.int .i64 bl, .int .i64 bh]] w fun e w' => e = .returned (.tuple #[.agg #[.int .i64 (meetL al ah bl bh), .int .i64 (meetH al ah bl bh)], .bool (meetB al ah bl bh)]) ∧ Below w.heap.size w w' := by
  have q1 := hmx al bl
  have q2 := hmn ah bh
  by_cases h1 : al ≤ ah
  · have e1 : okB al ah = true := decide_eq_true h1
    by_cases h2 : bl ≤ bh
    · have e2 : okB bl bh = true := decide_eq_true h2
      clear h1 h2
      by_cases h9 : mx al bl ≤ mn ah bh
      · have e3 : okB (mx al bl) (mn ah bh) = true := decide_eq_true h9
        have e9 : Hid (meetL al ah bl bh = mx al bl ∧ meetH al ah bl bh = mn ah bh ∧ meetB al ah bl bh = true) := ⟨if_pos h9, if_pos h9, decide_eq_true h9⟩
        clear h9
        go_enter Try.func10, Try.ntmps10
        go_wp2_with fail
        refine (sIvOk_c _ _ _).mono ?_
        rintro e w1 ⟨rfl, hb1⟩
        have B1 := hb1.mono (show w.heap.size + 4 ≤ _ by simp)
        clear hb1
        obtain ⟨hc1, hf1⟩ := bcellB B1
        have HB1 := hide B1
        clear B1
        go_wp2_with fail
        refine (sIvOk_c _ _ _).mono ?_
        rintro e w2 ⟨rfl, hb2⟩
        have B2 := (unhide HB1).trans (hb2.mono (by have := (unhide HB1).size; simp at this; omega))
        clear hb2 hc1 hf1 HB1
        obtain ⟨hc2, hf2⟩ := bcellB B2
        have HB2 := hide B2
        clear B2
        go_wp2_with fail
        refine (sIvOk_c _ _ _).mono ?_
        rintro e w3 ⟨rfl, hb3⟩
        have B3 := (unhide HB2).trans (hb3.mono (by have := (unhide HB2).size; simp at this; omega))
        clear hb3 hc2 hf2 HB2
        obtain ⟨hc3, hf3⟩ := bcellB B3
        have HB3 := hide B3
        clear B3
        have K3 : Hid (Below w.heap.size w w3) := (((((Below.refl _ _).alloc (Nat.le_refl _) _).alloc (by simp) _).alloc (by simp; omega) _).alloc (by simp; omega) _).trans ((unhide HB3).mono (by omega))
        clear HB3
        go_wp2
        exact bodyPost_ret (v := .tuple #[.agg #[.int .i64 (mx al bl), .int .i64 (mn ah bh)], .bool true]) (by simp [results, Try.results10, go_sem, hc3]) rfl ⟨by rw [e9.out.1, e9.out.2.1, e9.out.2.2], (K3.out.setCell (by simp; omega) _).setCell (by simp; omega) _⟩
      · have e3 : okB (mx al bl) (mn ah bh) = false := decide_eq_false h9
        have e9 : Hid (meetL al ah bl bh = 0 ∧ meetH al ah bl bh = 0 ∧ meetB al ah bl bh = false) := ⟨if_neg h9, if_neg h9, decide_eq_false h9⟩
        clear h9
        go_enter Try.func10, Try.ntmps10
        go_wp2_with fail
        refine (sIvOk_c _ _ _).mono ?_
        rintro e w1 ⟨rfl, hb1⟩
        have B1 := hb1.mono (show w.heap.size + 4 ≤ _ by simp)
        clear hb1
        obtain ⟨hc1, hf1⟩ := bcellB B1
        have HB1 := hide B1
        clear B1
        go_wp2_with fail
        refine (sIvOk_c _ _ _).mono ?_
        rintro e w2 ⟨rfl, hb2⟩
        have B2 := (unhide HB1).trans (hb2.mono (by have := (unhide HB1).size; simp at this; omega))
        clear hb2 hc1 hf1 HB1
        obtain ⟨hc2, hf2⟩ := bcellB B2
        have HB2 := hide B2
        clear B2
        go_wp2_with fail
        refine (sIvOk_c _ _ _).mono ?_
        rintro e w3 ⟨rfl, hb3⟩
        have B3 := (unhide HB2).trans (hb3.mono (by have := (unhide HB2).size; simp at this; omega))
        clear hb3 hc2 hf2 HB2
        obtain ⟨hc3, hf3⟩ := bcellB B3
        have HB3 := hide B3
        clear B3
        have K3 : Hid (Below w.heap.size w w3) := (((((Below.refl _ _).alloc (Nat.le_refl _) _).alloc (by simp) _).alloc (by simp; omega) _).alloc (by simp; omega) _).trans ((unhide HB3).mono (by omega))
        clear HB3
        go_wp2
        exact bodyPost_ret (v := .tuple #[.agg #[.int .i64 0, .int .i64 0], .bool false]) (by simp [results, Try.results10, go_sem, hc3]) rfl ⟨by rw [e9.out.1, e9.out.2.1, e9.out.2.2], (K3.out.setCell (by simp; omega) _).setCell (by simp; omega) _⟩
    · have e2 : okB bl bh = false := decide_eq_false h2
      have h9 := meet_bad al ah bl bh (.inr h2)
      have e9 : Hid (meetL al ah bl bh = 0 ∧ meetH al ah bl bh = 0 ∧ meetB al ah bl bh = false) := ⟨if_neg h9, if_neg h9, decide_eq_false h9⟩
      clear h1 h2 h9
      go_enter Try.func10, Try.ntmps10
      go_wp2_with fail
      refine (sIvOk_c _ _ _).mono ?_
      rintro e w1 ⟨rfl, hb1⟩
      have B1 := hb1.mono (show w.heap.size + 4 ≤ _ by simp)
      clear hb1
      obtain ⟨hc1, hf1⟩ := bcellB B1
      have HB1 := hide B1
      clear B1
      go_wp2_with fail
      refine (sIvOk_c _ _ _).mono ?_
      rintro e w2 ⟨rfl, hb2⟩
      have B2 := (unhide HB1).trans (hb2.mono (by have := (unhide HB1).size; simp at this; omega))
      clear hb2 hc1 hf1 HB1
      obtain ⟨hc2, hf2⟩ := bcellB B2
      have HB2 := hide B2
      clear B2
      have K2 : Hid (Below w.heap.size w w2) := (((((Below.refl _ _).alloc (Nat.le_refl _) _).alloc (by simp) _).alloc (by simp; omega) _).alloc (by simp; omega) _).trans ((unhide HB2).mono (by omega))
      clear HB2
      go_wp2
      exact bodyPost_ret (v := .tuple #[.agg #[.int .i64 0, .int .i64 0], .bool false]) (by simp [results, Try.results10, go_sem, hc2]) rfl ⟨by rw [e9.out.1, e9.out.2.1, e9.out.2.2], (K2.out.setCell (by simp; omega) _).setCell (by simp; omega) _⟩
  · have e1 : okB al ah = false := decide_eq_false h1
    have h9 := meet_bad al ah bl bh (.inl h1)
    have e9 : Hid (meetL al ah bl bh = 0 ∧ meetH al ah bl bh = 0 ∧ meetB al ah bl bh = false) := ⟨if_neg h9, if_neg h9, decide_eq_false h9⟩
    clear h1 h9
    go_enter Try.func10, Try.ntmps10
    go_wp2_with fail
    refine (sIvOk_c _ _ _).mono ?_
    rintro e w1 ⟨rfl, hb1⟩
    have B1 := hb1.mono (show w.heap.size + 4 ≤ _ by simp)
    clear hb1
    obtain ⟨hc1, hf1⟩ := bcellB B1
    have HB1 := hide B1
    clear B1
    have K1 : Hid (Below w.heap.size w w1) := (((((Below.refl _ _).alloc (Nat.le_refl _) _).alloc (by simp) _).alloc (by simp; omega) _).alloc (by simp; omega) _).trans ((unhide HB1).mono (by omega))
    clear HB1
    go_wp2
    exact bodyPost_ret (v := .tuple #[.agg #[.int .i64 0, .int .i64 0], .bool false]) (by simp [results, Try.results10, go_sem, hc1]) rfl ⟨by rw [e9.out.1, e9.out.2.1, e9.out.2.2], (K1.out.setCell (by simp; omega) _).setCell (by simp; omega) _⟩
end Go.Proofs.Ytlgjbfkhajphdaa
