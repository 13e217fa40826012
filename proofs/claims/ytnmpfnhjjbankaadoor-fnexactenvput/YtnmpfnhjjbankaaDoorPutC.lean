/- Places of an array, the meet of two intervals, one interval of an array's row written. -/
import Derived.Test.YtnmpfnhjjbankaaDoorSetD
import Derived.Test.YtnmpfnhjjbankaaDoorCopD
namespace Go.Proofs.YtnmpfnhjjbankaaDoor
open Go.RowKit
set_option linter.unusedSimpArgs false
set_option linter.unusedVariables false

theorem meet_bad (al ah bl bh : Int) (h : ¬ al ≤ ah ∨ ¬ bl ≤ bh) : ¬ mx al bl ≤ mn ah bh := by
  rw [mx_eq, mn_eq]; omega
theorem sIvMeet_c (al ah bl bh : Int) (w : World) : Calls Tryd.prog 97 #[.agg #[.int .i64 al, .int .i64 ah], .agg #[.int .i64 bl, .int .i64 bh]] w fun e w' => e = .returned (.tuple #[.agg #[.int .i64 (meetL al ah bl bh), .int .i64 (meetH al ah bl bh)], .bool (meetB al ah bl bh)]) ∧ Below w.heap.size w w' := by
  have q1 := hmx al bl
  have q2 := hmn ah bh
  by_cases h1 : al ≤ ah
  · have e1 : okB al ah = true := decide_eq_true h1
    by_cases h2 : bl ≤ bh
    · have e2 : okB bl bh = true := decide_eq_true h2
      clear h1 h2
      by_cases h9 : mx al bl ≤ mn ah bh
      · have e3 : okB (mx al bl) (mn ah bh) = true := decide_eq_true h9
        have e9 : Hid (meetL al ah bl bh = mx al bl ∧ meetH al ah bl bh = mn ah bh ∧ meetB al ah bl bh = true) := ⟨if_pos h9, if_pos h9, decide_eq_true h9⟩
        clear h9
        go_enter Tryd.func97, Tryd.ntmps97
        go_wp2_with fail
        refine (sIvOk_c _ _ _).mono ?_
        rintro e w1 ⟨rfl, hb1⟩
        have B1 := hb1.mono (show w.heap.size + 4 ≤ _ by simp)
        clear hb1
        obtain ⟨hc1, hf1⟩ := bcellB B1
        have HB1 := hide B1
        clear B1
        go_wp2_with fail
        refine (sIvOk_c _ _ _).mono ?_
        rintro e w2 ⟨rfl, hb2⟩
        have B2 := (unhide HB1).trans (hb2.mono (by have := (unhide HB1).size; simp at this; omega))
        clear hb2 hc1 hf1 HB1
        obtain ⟨hc2, hf2⟩ := bcellB B2
        have HB2 := hide B2
        clear B2
        go_wp2_with fail
        refine (sIvOk_c _ _ _).mono ?_
        rintro e w3 ⟨rfl, hb3⟩
        have B3 := (unhide HB2).trans (hb3.mono (by have := (unhide HB2).size; simp at this; omega))
        clear hb3 hc2 hf2 HB2
        obtain ⟨hc3, hf3⟩ := bcellB B3
        have HB3 := hide B3
        clear B3
        have K3 : Hid (Below w.heap.size w w3) := (((((Below.refl _ _).alloc (Nat.le_refl _) _).alloc (by simp) _).alloc (by simp; omega) _).alloc (by simp; omega) _).trans ((unhide HB3).mono (by omega))
        clear HB3
        go_wp2
        exact bodyPost_ret (v := .tuple #[.agg #[.int .i64 (mx al bl), .int .i64 (mn ah bh)], .bool true]) (by simp [results, Tryd.results97, go_sem, hc3]) rfl ⟨by rw [e9.out.1, e9.out.2.1, e9.out.2.2], (K3.out.setCell (by simp; omega) _).setCell (by simp; omega) _⟩
      · have e3 : okB (mx al bl) (mn ah bh) = false := decide_eq_false h9
        have e9 : Hid (meetL al ah bl bh = 0 ∧ meetH al ah bl bh = 0 ∧ meetB al ah bl bh = false) := ⟨if_neg h9, if_neg h9, decide_eq_false h9⟩
        clear h9
        go_enter Tryd.func97, Tryd.ntmps97
        go_wp2_with fail
        refine (sIvOk_c _ _ _).mono ?_
        rintro e w1 ⟨rfl, hb1⟩
        have B1 := hb1.mono (show w.heap.size + 4 ≤ _ by simp)
        clear hb1
        obtain ⟨hc1, hf1⟩ := bcellB B1
        have HB1 := hide B1
        clear B1
        go_wp2_with fail
        refine (sIvOk_c _ _ _).mono ?_
        rintro e w2 ⟨rfl, hb2⟩
        have B2 := (unhide HB1).trans (hb2.mono (by have := (unhide HB1).size; simp at this; omega))
        clear hb2 hc1 hf1 HB1
        obtain ⟨hc2, hf2⟩ := bcellB B2
        have HB2 := hide B2
        clear B2
        go_wp2_with fail
        refine (sIvOk_c _ _ _).mono ?_
        rintro e w3 ⟨rfl, hb3⟩
        have B3 := (unhide HB2).trans (hb3.mono (by have := (unhide HB2).size; simp at this; omega))
        clear hb3 hc2 hf2 HB2
        obtain ⟨hc3, hf3⟩ := bcellB B3
        have HB3 := hide B3
        clear B3
        have K3 : Hid (Below w.heap.size w w3) := (((((Below.refl _ _).alloc (Nat.le_refl _) _).alloc (by simp) _).alloc (by simp; omega) _).alloc (by simp; omega) _).trans ((unhide HB3).mono (by omega))
        clear HB3
        go_wp2
        exact bodyPost_ret (v := .tuple #[.agg #[.int .i64 0, .int .i64 0], .bool false]) (by simp [results, Tryd.results97, go_sem, hc3]) rfl ⟨by rw [e9.out.1, e9.out.2.1, e9.out.2.2], (K3.out.setCell (by simp; omega) _).setCell (by simp; omega) _⟩
    · have e2 : okB bl bh = false := decide_eq_false h2
      have h9 := meet_bad al ah bl bh (.inr h2)
      have e9 : Hid (meetL al ah bl bh = 0 ∧ meetH al ah bl bh = 0 ∧ meetB al ah bl bh = false) := ⟨if_neg h9, if_neg h9, decide_eq_false h9⟩
      clear h1 h2 h9
      go_enter Tryd.func97, Tryd.ntmps97
      go_wp2_with fail
      refine (sIvOk_c _ _ _).mono ?_
      rintro e w1 ⟨rfl, hb1⟩
      have B1 := hb1.mono (show w.heap.size + 4 ≤ _ by simp)
      clear hb1
      obtain ⟨hc1, hf1⟩ := bcellB B1
      have HB1 := hide B1
      clear B1
      go_wp2_with fail
      refine (sIvOk_c _ _ _).mono ?_
      rintro e w2 ⟨rfl, hb2⟩
      have B2 := (unhide HB1).trans (hb2.mono (by have := (unhide HB1).size; simp at this; omega))
      clear hb2 hc1 hf1 HB1
      obtain ⟨hc2, hf2⟩ := bcellB B2
      have HB2 := hide B2
      clear B2
      have K2 : Hid (Below w.heap.size w w2) := (((((Below.refl _ _).alloc (Nat.le_refl _) _).alloc (by simp) _).alloc (by simp; omega) _).alloc (by simp; omega) _).trans ((unhide HB2).mono (by omega))
      clear HB2
      go_wp2
      exact bodyPost_ret (v := .tuple #[.agg #[.int .i64 0, .int .i64 0], .bool false]) (by simp [results, Tryd.results97, go_sem, hc2]) rfl ⟨by rw [e9.out.1, e9.out.2.1, e9.out.2.2], (K2.out.setCell (by simp; omega) _).setCell (by simp; omega) _⟩
  · have e1 : okB al ah = false := decide_eq_false h1
    have h9 := meet_bad al ah bl bh (.inl h1)
    have e9 : Hid (meetL al ah bl bh = 0 ∧ meetH al ah bl bh = 0 ∧ meetB al ah bl bh = false) := ⟨if_neg h9, if_neg h9, decide_eq_false h9⟩
    clear h1 h9
    go_enter Tryd.func97, Tryd.ntmps97
    go_wp2_with fail
    refine (sIvOk_c _ _ _).mono ?_
    rintro e w1 ⟨rfl, hb1⟩
    have B1 := hb1.mono (show w.heap.size + 4 ≤ _ by simp)
    clear hb1
    obtain ⟨hc1, hf1⟩ := bcellB B1
    have HB1 := hide B1
    clear B1
    have K1 : Hid (Below w.heap.size w w1) := (((((Below.refl _ _).alloc (Nat.le_refl _) _).alloc (by simp) _).alloc (by simp; omega) _).alloc (by simp; omega) _).trans ((unhide HB1).mono (by omega))
    clear HB1
    go_wp2
    exact bodyPost_ret (v := .tuple #[.agg #[.int .i64 0, .int .i64 0], .bool false]) (by simp [results, Tryd.results97, go_sem, hc1]) rfl ⟨by rw [e9.out.1, e9.out.2.1, e9.out.2.2], (K1.out.setCell (by simp; omega) _).setCell (by simp; omega) _⟩

/-- Whether one of these is a place; the alarm where another is none. -/
def plS (s pl ph : Int) : Bool := meetB pl ph 0 (s - 1)
def plA (s pl ph : Int) : Int := if leqB pl ph 0 (s - 1) = true then 0 else 2
theorem plS_leq {s pl ph : Int} (h : leqB pl ph 0 (s - 1) = true) : plS s pl ph = true := by
  have h := of_decide_eq_true h
  apply decide_eq_true
  rw [mx_eq, mn_eq]
  omega
set_option maxRecDepth 20000 in
set_option maxHeartbeats 4000000 in
theorem placesIn_c (s pl ph : Int) (hs : 1 ≤ s ∧ s ≤ 16) (w : World) : Calls Tryd.prog 66 #[.int .i64 s, .agg #[.int .i64 pl, .int .i64 ph]] w fun e w' => e = .returned (.tuple #[.bool (plS s pl ph), .int .i64 (plA s pl ph)]) ∧ Below w.heap.size w w' := by
  have ew : wrap64 (s - 1) = s - 1 := by unfold wrap64; omega
  go_enter Tryd.func66, Tryd.ntmps66
  go_wp2_with fail
  refine (IvLeq_c _ _ _ _ _).mono ?_
  rintro e w1 ⟨rfl, hb1⟩
  have B1 := hb1.mono (show w.heap.size + 2 ≤ _ by simp)
  clear hb1
  obtain ⟨hc1, hf1⟩ := bcellB B1
  have HB1 := hide B1
  clear B1
  cases h : leqB pl ph 0 (s - 1)
  · have HA := hide (show plA s pl ph = 2 by unfold plA; rw [h]; rfl)
    clear h
    go_wp2_with fail
    refine (IvMeet_c _ _ _ _ _).mono ?_
    rintro e w2 ⟨rfl, hb2⟩
    have B2 := (unhide HB1).trans (hb2.mono (by have := (unhide HB1).size; simp at this; omega))
    clear hb2 hc1 hf1 HB1
    have K2 : Hid (Below w.heap.size w w2) := (((Below.refl _ _).alloc (Nat.le_refl _) _).alloc (by simp) _).trans (B2.mono (by omega))
    clear B2
    go_wp2
    exact bodyPost_ret (v := .tuple #[.bool (meetB pl ph 0 (s - 1)), .int .i64 2]) (by simp [results, Tryd.results66, go_sem]) rfl ⟨by rw [unhide HA]; rfl, (unhide K2).alloc (unhide K2).size _⟩
  · have HS := hide (plS_leq h)
    have HA := hide (show plA s pl ph = 0 by unfold plA; rw [h]; rfl)
    have K1 : Hid (Below w.heap.size w w1) := (((Below.refl _ _).alloc (Nat.le_refl _) _).alloc (by simp) _).trans ((unhide HB1).mono (by omega))
    clear h HB1
    go_wp2
    exact bodyPost_ret (v := .tuple #[.bool true, .int .i64 0]) (by simp [results, Tryd.results66, go_sem]) rfl ⟨by rw [unhide HA, unhide HS], unhide K1⟩
set_option maxRecDepth 20000 in
set_option maxHeartbeats 4000000 in
theorem l7Place_c (s pl ph : Int) (hs : 1 ≤ s ∧ s ≤ 16) (w : World) : Calls Tryd.prog 85 #[.agg #[.int .i64 pl, .int .i64 ph], .int .i64 s] w fun e w' => e = .returned (.tuple #[.bool (plS s pl ph), .int .i64 (plA s pl ph)]) ∧ Below w.heap.size w w' := by
  have ew : wrap64 (s - 1) = s - 1 := by unfold wrap64; omega
  go_enter Tryd.func85, Tryd.ntmps85
  go_wp2_with fail
  refine (sIvMeet_c _ _ _ _ _).mono ?_
  rintro e w1 ⟨rfl, hb1⟩
  have B1 := hb1.mono (show w.heap.size + 2 ≤ _ by simp)
  clear hb1
  have ka := (Below.refl _ w1).alloc (Nat.le_refl _) (Obj.cells #[.int .i64 (meetL pl ph 0 (s - 1)), .int .i64 (meetH pl ph 0 (s - 1))] 60)
  have B2 := B1.trans (ka.mono (by have := B1.size; simp at this; omega))
  have K2 : Hid (Below w.heap.size w (w1.alloc (Obj.cells #[.int .i64 (meetL pl ph 0 (s - 1)), .int .i64 (meetH pl ph 0 (s - 1))] 60))) := (((Below.refl _ _).alloc (Nat.le_refl _) _).alloc (by simp) _).trans (B2.mono (by omega))
  have hsz : w.heap.size ≤ w1.heap.size := by have := B1.size; simp at this; omega
  obtain ⟨w2, hz⟩ : ∃ z, z = w1.alloc (Obj.cells #[.int .i64 (meetL pl ph 0 (s - 1)), .int .i64 (meetH pl ph 0 (s - 1))] 60) := ⟨_, rfl⟩
  rw [← hz] at B2 K2
  obtain ⟨hc1, hf1⟩ := bcellB B2
  have HZ := hide hz
  clear B1 B2 ka hz
  go_upto_region 3 with fail
  rw [← unhide HZ]
  clear HZ
  go_wp2_with fail
  refine (sIvLeq_c _ _ _ _ _).mono ?_
  rintro e w3 ⟨rfl, hb2⟩
  have K3 : Hid (Below w.heap.size w w3) := (unhide K2).trans (hb2.mono (unhide K2).size)
  clear hb2 hc1 hf1 K2
  cases h : leqB pl ph 0 (s - 1)
  · have HA := hide (show plA s pl ph = 2 by unfold plA; rw [h]; rfl)
    clear h
    go_wp2
    exact bodyPost_ret (v := .tuple #[.bool (meetB pl ph 0 (s - 1)), .int .i64 2]) (by simp [results, Tryd.results85, go_sem]) rfl ⟨by rw [unhide HA]; rfl, unhide K3⟩
  · have HA := hide (show plA s pl ph = 0 by unfold plA; rw [h]; rfl)
    clear h
    go_wp2
    exact bodyPost_ret (v := .tuple #[.bool (meetB pl ph 0 (s - 1)), .int .i64 0]) (by simp [results, Tryd.results85, go_sem]) rfl ⟨by rw [unhide HA]; rfl, unhide K3⟩
/-- One interval of the second row is written. -/
theorem RowsE.writeY {w : World} {B ca cb v : Nat} {oa ob : Option Addr} {xs ys : List (Int × Int)} (h : RowsE w B oa ca ob cb xs ys) (hv : v < ys.length) (p : Int × Int) :
    ∃ g, ob = some ⟨g, 0, none⟩ ∧ B ≤ g ∧ g < w.heap.size ∧ (w.cell? ⟨g, v * 2, none⟩ = some (.int .i64 ys[v].1) ∧ w.cell? ⟨g, v * 2 + 1, none⟩ = some (.int .i64 ys[v].2)) ∧ (∀ o, w.frozen? ⟨g, o, none⟩ = false) ∧
      RowsE ((w.setCell ⟨g, v * 2, none⟩ (.int .i64 p.1)).setCell ⟨g, v * 2 + 1, none⟩ (.int .i64 p.2)) B oa ca ob cb xs (ys.set v p) := by
  have h1 := h.2.1
  rcases h1.2 with ⟨_, h0⟩ | ⟨g, cap, cur, hq, hB, hg, hn, hm, hs, ht⟩
  · omega
  · cases hq
    have lt := (h1.lt g rfl).2
    have c := cellsV_at ys v hv
    have hadd : ∀ j, (⟨g, 0, none⟩ : Addr).add j = ⟨g, j, none⟩ := fun j => by unfold Addr.add; split <;> simp_all
    have k1 := h1.cells (g := g) rfl (v * 2) _ c.1
    have k2 := h1.cells (g := g) rfl (v * 2 + 1) _ c.2
    rw [hadd] at k1 k2
    have s1 := ((h1.stored (v * 2) (.int .i64 p.1)).1.stored (v * 2 + 1) (.int .i64 p.2)).1
    rw [cellsV_set ys v p hv] at s1
    have ne : (Value.slice oa xs.length ca).ownBlock ≠ some g := by
      cases oa with
      | none => intro q; cases q
      | some y => intro q; exact h.2.2 y _ rfl rfl (by have := Option.some.inj q; simp; omega)
    refine ⟨g, rfl, hB, lt, ⟨k1, k2⟩, fun o => h1.frozenAt o, own_far_set (own_far_set h.1 ne) ne, ?_, h.2.2⟩
    rw [List.length_set]
    exact s1
end Go.Proofs.YtnmpfnhjjbankaaDoor
