/- Texts that go together: PutC, PutD, PutE. -/
import Derived.Test.YthpnbmdmkmkicaaDoorSetD
import Derived.Test.YthpnbmdmkmkicaaDoorCopD
/- Places of an array, the meet of two intervals, one interval of an array's row written. -/
namespace Go.Proofs.YthpnbmdmkmkicaaDoor
open Go.RowKit
set_option linter.unusedSimpArgs false
set_option linter.unusedVariables false

theorem meet_badP (al ah bl bh : Int) (h : ¬ al ≤ ah ∨ ¬ bl ≤ bh) : ¬ mx al bl ≤ mn ah bh := by
  rw [mx_eq, mn_eq]; omega
theorem sIvMeet_c (al ah bl bh : Int) (w : World) : Calls Tryd.prog 84 #[.agg #[.int .i64 al, .int .i64 ah], .agg #[.int .i64 bl, .int .i64 bh]] w fun e w' => e = .returned (.tuple #[.agg #[.int .i64 (meetL al ah bl bh), .int .i64 (meetH al ah bl bh)], .bool (meetB al ah bl bh)]) ∧ Below w.heap.size w w' := by
  have q1 := hmx al bl
  have q2 := hmn ah bh
  by_cases h1 : al ≤ ah
  · have e1 : okB al ah = true := decide_eq_true h1
    by_cases h2 : bl ≤ bh
    · have e2 : okB bl bh = true := decide_eq_true h2
      clear h1 h2
      by_cases h9 : mx al bl ≤ mn ah bh
      · have e3 : okB (mx al bl) (mn ah bh) = true := decide_eq_true h9
        have e9 : Hid (meetL al ah bl bh = mx al bl ∧ meetH al ah bl bh = mn ah bh ∧ meetB al ah bl bh = true) := ⟨if_pos h9, if_pos h9, decide_eq_true h9⟩
        clear h9
        go_enter Tryd.func84, Tryd.ntmps84
        go_wp2_with fail
        refine (sIvOk_c _ _ _).mono ?_
        rintro e w1 ⟨rfl, hb1⟩
        have B1 := hb1.mono (show w.heap.size + 4 ≤ _ by simp)
        clear hb1
        obtain ⟨hc1, hf1⟩ := bcellB B1
        have HB1 := hide B1
        clear B1
        go_wp2_with fail
        refine (sIvOk_c _ _ _).mono ?_
        rintro e w2 ⟨rfl, hb2⟩
        have B2 := (unhide HB1).trans (hb2.mono (by have := (unhide HB1).size; simp at this; omega))
        clear hb2 hc1 hf1 HB1
        obtain ⟨hc2, hf2⟩ := bcellB B2
        have HB2 := hide B2
        clear B2
        go_wp2_with fail
        refine (sIvOk_c _ _ _).mono ?_
        rintro e w3 ⟨rfl, hb3⟩
        have B3 := (unhide HB2).trans (hb3.mono (by have := (unhide HB2).size; simp at this; omega))
        clear hb3 hc2 hf2 HB2
        obtain ⟨hc3, hf3⟩ := bcellB B3
        have HB3 := hide B3
        clear B3
        have K3 : Hid (Below w.heap.size w w3) := (((((Below.refl _ _).alloc (Nat.le_refl _) _).alloc (by simp) _).alloc (by simp; omega) _).alloc (by simp; omega) _).trans ((unhide HB3).mono (by omega))
        clear HB3
        go_wp2
        exact bodyPost_ret (v := .tuple #[.agg #[.int .i64 (mx al bl), .int .i64 (mn ah bh)], .bool true]) (by simp [results, Tryd.results84, go_sem, hc3]) rfl ⟨by rw [e9.out.1, e9.out.2.1, e9.out.2.2], (K3.out.setCell (by simp; omega) _).setCell (by simp; omega) _⟩
      · have e3 : okB (mx al bl) (mn ah bh) = false := decide_eq_false h9
        have e9 : Hid (meetL al ah bl bh = 0 ∧ meetH al ah bl bh = 0 ∧ meetB al ah bl bh = false) := ⟨if_neg h9, if_neg h9, decide_eq_false h9⟩
        clear h9
        go_enter Tryd.func84, Tryd.ntmps84
        go_wp2_with fail
        refine (sIvOk_c _ _ _).mono ?_
        rintro e w1 ⟨rfl, hb1⟩
        have B1 := hb1.mono (show w.heap.size + 4 ≤ _ by simp)
        clear hb1
        obtain ⟨hc1, hf1⟩ := bcellB B1
        have HB1 := hide B1
        clear B1
        go_wp2_with fail
        refine (sIvOk_c _ _ _).mono ?_
        rintro e w2 ⟨rfl, hb2⟩
        have B2 := (unhide HB1).trans (hb2.mono (by have := (unhide HB1).size; simp at this; omega))
        clear hb2 hc1 hf1 HB1
        obtain ⟨hc2, hf2⟩ := bcellB B2
        have HB2 := hide B2
        clear B2
        go_wp2_with fail
        refine (sIvOk_c _ _ _).mono ?_
        rintro e w3 ⟨rfl, hb3⟩
        have B3 := (unhide HB2).trans (hb3.mono (by have := (unhide HB2).size; simp at this; omega))
        clear hb3 hc2 hf2 HB2
        obtain ⟨hc3, hf3⟩ := bcellB B3
        have HB3 := hide B3
        clear B3
        have K3 : Hid (Below w.heap.size w w3) := (((((Below.refl _ _).alloc (Nat.le_refl _) _).alloc (by simp) _).alloc (by simp; omega) _).alloc (by simp; omega) _).trans ((unhide HB3).mono (by omega))
        clear HB3
        go_wp2
        exact bodyPost_ret (v := .tuple #[.agg #[.int .i64 0, .int .i64 0], .bool false]) (by simp [results, Tryd.results84, go_sem, hc3]) rfl ⟨by rw [e9.out.1, e9.out.2.1, e9.out.2.2], (K3.out.setCell (by simp; omega) _).setCell (by simp; omega) _⟩
    · have e2 : okB bl bh = false := decide_eq_false h2
      have h9 := meet_badP al ah bl bh (.inr h2)
      have e9 : Hid (meetL al ah bl bh = 0 ∧ meetH al ah bl bh = 0 ∧ meetB al ah bl bh = false) := ⟨if_neg h9, if_neg h9, decide_eq_false h9⟩
      clear h1 h2 h9
      go_enter Tryd.func84, Tryd.ntmps84
      go_wp2_with fail
      refine (sIvOk_c _ _ _).mono ?_
      rintro e w1 ⟨rfl, hb1⟩
      have B1 := hb1.mono (show w.heap.size + 4 ≤ _ by simp)
      clear hb1
      obtain ⟨hc1, hf1⟩ := bcellB B1
      have HB1 := hide B1
      clear B1
      go_wp2_with fail
      refine (sIvOk_c _ _ _).mono ?_
      rintro e w2 ⟨rfl, hb2⟩
      have B2 := (unhide HB1).trans (hb2.mono (by have := (unhide HB1).size; simp at this; omega))
      clear hb2 hc1 hf1 HB1
      obtain ⟨hc2, hf2⟩ := bcellB B2
      have HB2 := hide B2
      clear B2
      have K2 : Hid (Below w.heap.size w w2) := (((((Below.refl _ _).alloc (Nat.le_refl _) _).alloc (by simp) _).alloc (by simp; omega) _).alloc (by simp; omega) _).trans ((unhide HB2).mono (by omega))
      clear HB2
      go_wp2
      exact bodyPost_ret (v := .tuple #[.agg #[.int .i64 0, .int .i64 0], .bool false]) (by simp [results, Tryd.results84, go_sem, hc2]) rfl ⟨by rw [e9.out.1, e9.out.2.1, e9.out.2.2], (K2.out.setCell (by simp; omega) _).setCell (by simp; omega) _⟩
  · have e1 : okB al ah = false := decide_eq_false h1
    have h9 := meet_badP al ah bl bh (.inl h1)
    have e9 : Hid (meetL al ah bl bh = 0 ∧ meetH al ah bl bh = 0 ∧ meetB al ah bl bh = false) := ⟨if_neg h9, if_neg h9, decide_eq_false h9⟩
    clear h1 h9
    go_enter Tryd.func84, Tryd.ntmps84
    go_wp2_with fail
    refine (sIvOk_c _ _ _).mono ?_
    rintro e w1 ⟨rfl, hb1⟩
    have B1 := hb1.mono (show w.heap.size + 4 ≤ _ by simp)
    clear hb1
    obtain ⟨hc1, hf1⟩ := bcellB B1
    have HB1 := hide B1
    clear B1
    have K1 : Hid (Below w.heap.size w w1) := (((((Below.refl _ _).alloc (Nat.le_refl _) _).alloc (by simp) _).alloc (by simp; omega) _).alloc (by simp; omega) _).trans ((unhide HB1).mono (by omega))
    clear HB1
    go_wp2
    exact bodyPost_ret (v := .tuple #[.agg #[.int .i64 0, .int .i64 0], .bool false]) (by simp [results, Tryd.results84, go_sem, hc1]) rfl ⟨by rw [e9.out.1, e9.out.2.1, e9.out.2.2], (K1.out.setCell (by simp; omega) _).setCell (by simp; omega) _⟩

/-- Whether one of these is a place; the alarm where another is none. -/
def plS (s pl ph : Int) : Bool := meetB pl ph 0 (s - 1)
def plA (s pl ph : Int) : Int := if leqB pl ph 0 (s - 1) = true then 0 else 2
theorem plS_leq {s pl ph : Int} (h : leqB pl ph 0 (s - 1) = true) : plS s pl ph = true := by
  have h := of_decide_eq_true h
  apply decide_eq_true
  rw [mx_eq, mn_eq]
  omega
set_option maxRecDepth 20000 in
set_option maxHeartbeats 4000000 in
theorem placesIn_c (s pl ph : Int) (hs : 1 ≤ s ∧ s ≤ 16) (w : World) : Calls Tryd.prog 59 #[.int .i64 s, .agg #[.int .i64 pl, .int .i64 ph]] w fun e w' => e = .returned (.tuple #[.bool (plS s pl ph), .int .i64 (plA s pl ph)]) ∧ Below w.heap.size w w' := by
  have ew : wrap64 (s - 1) = s - 1 := by unfold wrap64; omega
  go_enter Tryd.func59, Tryd.ntmps59
  go_wp2_with fail
  refine (IvLeq_c _ _ _ _ _).mono ?_
  rintro e w1 ⟨rfl, hb1⟩
  have B1 := hb1.mono (show w.heap.size + 2 ≤ _ by simp)
  clear hb1
  obtain ⟨hc1, hf1⟩ := bcellB B1
  have HB1 := hide B1
  clear B1
  cases h : leqB pl ph 0 (s - 1)
  · have HA := hide (show plA s pl ph = 2 by unfold plA; rw [h]; rfl)
    clear h
    go_wp2_with fail
    refine (IvMeet_c _ _ _ _ _).mono ?_
    rintro e w2 ⟨rfl, hb2⟩
    have B2 := (unhide HB1).trans (hb2.mono (by have := (unhide HB1).size; simp at this; omega))
    clear hb2 hc1 hf1 HB1
    have K2 : Hid (Below w.heap.size w w2) := (((Below.refl _ _).alloc (Nat.le_refl _) _).alloc (by simp) _).trans (B2.mono (by omega))
    clear B2
    go_wp2
    exact bodyPost_ret (v := .tuple #[.bool (meetB pl ph 0 (s - 1)), .int .i64 2]) (by simp [results, Tryd.results59, go_sem]) rfl ⟨by rw [unhide HA]; rfl, (unhide K2).alloc (unhide K2).size _⟩
  · have HS := hide (plS_leq h)
    have HA := hide (show plA s pl ph = 0 by unfold plA; rw [h]; rfl)
    have K1 : Hid (Below w.heap.size w w1) := (((Below.refl _ _).alloc (Nat.le_refl _) _).alloc (by simp) _).trans ((unhide HB1).mono (by omega))
    clear h HB1
    go_wp2
    exact bodyPost_ret (v := .tuple #[.bool true, .int .i64 0]) (by simp [results, Tryd.results59, go_sem]) rfl ⟨by rw [unhide HA, unhide HS], unhide K1⟩
set_option maxRecDepth 20000 in
set_option maxHeartbeats 4000000 in
theorem l7Place_c (s pl ph : Int) (hs : 1 ≤ s ∧ s ≤ 16) (w : World) : Calls Tryd.prog 78 #[.agg #[.int .i64 pl, .int .i64 ph], .int .i64 s] w fun e w' => e = .returned (.tuple #[.bool (plS s pl ph), .int .i64 (plA s pl ph)]) ∧ Below w.heap.size w w' := by
  have ew : wrap64 (s - 1) = s - 1 := by unfold wrap64; omega
  go_enter Tryd.func78, Tryd.ntmps78
  go_wp2_with fail
  refine (sIvMeet_c _ _ _ _ _).mono ?_
  rintro e w1 ⟨rfl, hb1⟩
  have B1 := hb1.mono (show w.heap.size + 2 ≤ _ by simp)
  clear hb1
  have ka := (Below.refl _ w1).alloc (Nat.le_refl _) (Obj.cells #[.int .i64 (meetL pl ph 0 (s - 1)), .int .i64 (meetH pl ph 0 (s - 1))] 47)
  have B2 := B1.trans (ka.mono (by have := B1.size; simp at this; omega))
  have K2 : Hid (Below w.heap.size w (w1.alloc (Obj.cells #[.int .i64 (meetL pl ph 0 (s - 1)), .int .i64 (meetH pl ph 0 (s - 1))] 47))) := (((Below.refl _ _).alloc (Nat.le_refl _) _).alloc (by simp) _).trans (B2.mono (by omega))
  have hsz : w.heap.size ≤ w1.heap.size := by have := B1.size; simp at this; omega
  obtain ⟨w2, hz⟩ : ∃ z, z = w1.alloc (Obj.cells #[.int .i64 (meetL pl ph 0 (s - 1)), .int .i64 (meetH pl ph 0 (s - 1))] 47) := ⟨_, rfl⟩
  rw [← hz] at B2 K2
  obtain ⟨hc1, hf1⟩ := bcellB B2
  have HZ := hide hz
  clear B1 B2 ka hz
  go_upto_region 3 with fail
  rw [← unhide HZ]
  clear HZ
  go_wp2_with fail
  refine (sIvLeq_c _ _ _ _ _).mono ?_
  rintro e w3 ⟨rfl, hb2⟩
  have K3 : Hid (Below w.heap.size w w3) := (unhide K2).trans (hb2.mono (unhide K2).size)
  clear hb2 hc1 hf1 K2
  cases h : leqB pl ph 0 (s - 1)
  · have HA := hide (show plA s pl ph = 2 by unfold plA; rw [h]; rfl)
    clear h
    go_wp2
    exact bodyPost_ret (v := .tuple #[.bool (meetB pl ph 0 (s - 1)), .int .i64 2]) (by simp [results, Tryd.results78, go_sem]) rfl ⟨by rw [unhide HA]; rfl, unhide K3⟩
  · have HA := hide (show plA s pl ph = 0 by unfold plA; rw [h]; rfl)
    clear h
    go_wp2
    exact bodyPost_ret (v := .tuple #[.bool (meetB pl ph 0 (s - 1)), .int .i64 0]) (by simp [results, Tryd.results78, go_sem]) rfl ⟨by rw [unhide HA]; rfl, unhide K3⟩
/-- One interval of the second row is written. -/
theorem RowsE.writeY {w : World} {B ca cb v : Nat} {oa ob : Option Addr} {xs ys : List (Int × Int)} (h : RowsE w B oa ca ob cb xs ys) (hv : v < ys.length) (p : Int × Int) :
    ∃ g, ob = some ⟨g, 0, none⟩ ∧ B ≤ g ∧ g < w.heap.size ∧ (w.cell? ⟨g, v * 2, none⟩ = some (.int .i64 ys[v].1) ∧ w.cell? ⟨g, v * 2 + 1, none⟩ = some (.int .i64 ys[v].2)) ∧ (∀ o, w.frozen? ⟨g, o, none⟩ = false) ∧
      RowsE ((w.setCell ⟨g, v * 2, none⟩ (.int .i64 p.1)).setCell ⟨g, v * 2 + 1, none⟩ (.int .i64 p.2)) B oa ca ob cb xs (ys.set v p) := by
  have h1 := h.2.1
  rcases h1.2 with ⟨_, h0⟩ | ⟨g, cap, cur, hq, hB, hg, hn, hm, hs, ht⟩
  · omega
  · cases hq
    have lt := (h1.lt g rfl).2
    have c := cellsV_at ys v hv
    have hadd : ∀ j, (⟨g, 0, none⟩ : Addr).add j = ⟨g, j, none⟩ := fun j => by unfold Addr.add; split <;> simp_all
    have k1 := h1.cells (g := g) rfl (v * 2) _ c.1
    have k2 := h1.cells (g := g) rfl (v * 2 + 1) _ c.2
    rw [hadd] at k1 k2
    have s1 := ((h1.stored (v * 2) (.int .i64 p.1)).1.stored (v * 2 + 1) (.int .i64 p.2)).1
    rw [cellsV_set ys v p hv] at s1
    have ne : (Value.slice oa xs.length ca).ownBlock ≠ some g := by
      cases oa with
      | none => intro q; cases q
      | some y => intro q; exact h.2.2 y _ rfl rfl (by have := Option.some.inj q; simp; omega)
    refine ⟨g, rfl, hB, lt, ⟨k1, k2⟩, fun o => h1.frozenAt o, own_far_set (own_far_set h.1 ne) ne, ?_, h.2.2⟩
    rw [List.length_set]
    exact s1
end Go.Proofs.YthpnbmdmkmkicaaDoor

/- What is put into an array: what EnvPut answers; the program's EnvPut. -/
namespace Go.Proofs.YthpnbmdmkmkicaaDoor
open Go.RowKit
set_option linter.unusedSimpArgs false
set_option linter.unusedVariables false

/-- An interval in a block of the call's own. -/
def CJ (u : World) (b : Nat) (x y : Int) : Prop := u.cell? ⟨b, 0, none⟩ = some (.int .i64 x) ∧ u.cell? ⟨b, 1, none⟩ = some (.int .i64 y) ∧ (∀ o, u.frozen? ⟨b, o, none⟩ = false) ∧ b < u.heap.size
theorem CJ.new (w : World) (x y : Int) (t : TypeId) : CJ (w.alloc (Obj.cells #[.int .i64 x, .int .i64 y] t)) w.heap.size x y :=
  ⟨by simp [go_sem], by simp [go_sem], fun o => by simp [go_sem], by simp⟩
theorem CJ.call {u v : World} {b : Nat} {x y : Int} (h : CJ u b x y) (hb : Below u.heap.size u v) : CJ v b x y :=
  ⟨(hb.cell (by exact h.2.2.2)).trans h.1, (hb.cell (by exact h.2.2.2)).trans h.2.1, fun o => (hb.frozen (by exact h.2.2.2)).trans (h.2.2.1 o), Nat.lt_of_lt_of_le h.2.2.2 hb.size⟩
theorem CJ.alloc {u : World} {b : Nat} {x y : Int} (h : CJ u b x y) (o : Obj) : CJ (u.alloc o) b x y := h.call ((Below.refl _ u).alloc (Nat.le_refl _) o)
theorem CJ.stored {u : World} {b : Nat} {x y : Int} (h : CJ u b x y) (p q : Int) : CJ ((u.setCell ⟨b, 0, none⟩ (.int .i64 p)).setCell ⟨b, 1, none⟩ (.int .i64 q)) b p q :=
  ⟨by simp [go_sem, h.1, h.2.1], by simp [go_sem, h.1, h.2.1], fun o => by simp [World.frozen?_setCell, h.2.2.1 o], by simpa [World.setCell] using h.2.2.2⟩
/-- A declaration, bounds, two intervals and the answer, each in a block. -/
def Q6p (w0 : World) (x0 y0 z0 x1 y1 z1 : Value) (pl ph al ah : Int) (u : World) : Prop := C3 u w0.heap.size x0 y0 z0 ∧ C3 u (w0.heap.size + 1) x1 y1 z1 ∧ CJ u (w0.heap.size + 2) pl ph ∧ CJ u (w0.heap.size + 3) al ah ∧ C3 u (w0.heap.size + 4) (.bool false) (.slice none 0 0) (.slice none 0 0) ∧ Below w0.heap.size w0 u
theorem Q6p.call {w0 u v : World} {x0 y0 z0 x1 y1 z1 : Value} {pl ph al ah : Int} (h : Q6p w0 x0 y0 z0 x1 y1 z1 pl ph al ah u) (hb : Below u.heap.size u v) : Q6p w0 x0 y0 z0 x1 y1 z1 pl ph al ah v :=
  ⟨h.1.call hb, h.2.1.call hb, h.2.2.1.call hb, h.2.2.2.1.call hb, h.2.2.2.2.1.call hb, h.2.2.2.2.2.trans (hb.mono h.2.2.2.2.2.size)⟩
theorem Q6p.bel {w0 u : World} {x0 y0 z0 x1 y1 z1 : Value} {pl ph al ah : Int} (h : Q6p w0 x0 y0 z0 x1 y1 z1 pl ph al ah u) : Below w0.heap.size w0 u := h.2.2.2.2.2
theorem Q6p.new (w : World) (x0 y0 z0 x1 y1 z1 : Value) (pl ph al ah : Int) (t0 t1 t2 t3 t4 : TypeId) : Q6p w x0 y0 z0 x1 y1 z1 pl ph al ah (((((w.alloc (Obj.cells #[x0, y0, z0] t0)).alloc (Obj.cells #[x1, y1, z1] t1)).alloc (Obj.cells #[.int .i64 pl, .int .i64 ph] t2)).alloc (Obj.cells #[.int .i64 al, .int .i64 ah] t3)).alloc (Obj.cells #[.bool false, .slice none 0 0, .slice none 0 0] t4)) := by
  have T0 := ((((C3.new w x0 y0 z0 t0).alloc (Obj.cells #[x1, y1, z1] t1)).alloc (Obj.cells #[.int .i64 pl, .int .i64 ph] t2)).alloc (Obj.cells #[.int .i64 al, .int .i64 ah] t3)).alloc (Obj.cells #[.bool false, .slice none 0 0, .slice none 0 0] t4)
  have T1 := (((C3.new (w.alloc (Obj.cells #[x0, y0, z0] t0)) x1 y1 z1 t1).alloc (Obj.cells #[.int .i64 pl, .int .i64 ph] t2)).alloc (Obj.cells #[.int .i64 al, .int .i64 ah] t3)).alloc (Obj.cells #[.bool false, .slice none 0 0, .slice none 0 0] t4)
  have T2 := ((CJ.new ((w.alloc (Obj.cells #[x0, y0, z0] t0)).alloc (Obj.cells #[x1, y1, z1] t1)) pl ph t2).alloc (Obj.cells #[.int .i64 al, .int .i64 ah] t3)).alloc (Obj.cells #[.bool false, .slice none 0 0, .slice none 0 0] t4)
  have T3 := (CJ.new (((w.alloc (Obj.cells #[x0, y0, z0] t0)).alloc (Obj.cells #[x1, y1, z1] t1)).alloc (Obj.cells #[.int .i64 pl, .int .i64 ph] t2)) al ah t3).alloc (Obj.cells #[.bool false, .slice none 0 0, .slice none 0 0] t4)
  have T4 := C3.new ((((w.alloc (Obj.cells #[x0, y0, z0] t0)).alloc (Obj.cells #[x1, y1, z1] t1)).alloc (Obj.cells #[.int .i64 pl, .int .i64 ph] t2)).alloc (Obj.cells #[.int .i64 al, .int .i64 ah] t3)) (.bool false) (.slice none 0 0) (.slice none 0 0) t4
  rw [show (w.alloc (Obj.cells #[x0, y0, z0] t0)).heap.size = w.heap.size + 1 by simp] at T1
  rw [show ((w.alloc (Obj.cells #[x0, y0, z0] t0)).alloc (Obj.cells #[x1, y1, z1] t1)).heap.size = w.heap.size + 2 by simp] at T2
  rw [show (((w.alloc (Obj.cells #[x0, y0, z0] t0)).alloc (Obj.cells #[x1, y1, z1] t1)).alloc (Obj.cells #[.int .i64 pl, .int .i64 ph] t2)).heap.size = w.heap.size + 3 by simp] at T3
  rw [show ((((w.alloc (Obj.cells #[x0, y0, z0] t0)).alloc (Obj.cells #[x1, y1, z1] t1)).alloc (Obj.cells #[.int .i64 pl, .int .i64 ph] t2)).alloc (Obj.cells #[.int .i64 al, .int .i64 ah] t3)).heap.size = w.heap.size + 4 by simp] at T4
  exact ⟨T0, T1, T2, T3, T4, (((((Below.refl _ _).alloc (Nat.le_refl _) _).alloc (by simp) _).alloc (by simp; omega) _).alloc (by simp; omega) _).alloc (by simp; omega) _⟩
/-- What is put is right. -/
def putOk (vs fs : List ByteArray) (rs : List (ByteArray × Int)) (li : Bool) (xs ys : List (Int × Int)) (v pl ph al ah : Int) : Bool := envB vs fs rs li xs ys && (li && (decide (0 ≤ v ∧ v < rs.length) && bothB pl ph al ah))
/-- How many numbers the array has. -/
def sizeAt (rs : List (ByteArray × Int)) (v : Int) : Int := ((rs[v.toNat]?).map (·.2)).getD 1
def putL (vs fs : List ByteArray) (rs : List (ByteArray × Int)) (li : Bool) (xs ys : List (Int × Int)) (v pl ph al ah : Int) : Bool := putOk vs fs rs li xs ys v pl ph al ah && plS (sizeAt rs v) pl ph
def putA (vs fs : List ByteArray) (rs : List (ByteArray × Int)) (li : Bool) (xs ys : List (Int × Int)) (v pl ph al ah : Int) : Int := if putOk vs fs rs li xs ys v pl ph al ah = true then plA (sizeAt rs v) pl ph else 0
/-- What the array has then. -/
def putV (s : Int) (p : Int × Int) (al ah : Int) : Int × Int := if s = 1 then (al, ah) else (mn p.1 al, mx p.2 ah)
def putX (vs fs : List ByteArray) (rs : List (ByteArray × Int)) (li : Bool) (xs ys : List (Int × Int)) (v pl ph al ah : Int) : List (Int × Int) := if putL vs fs rs li xs ys v pl ph al ah = true then xs else []
def putY (vs fs : List ByteArray) (rs : List (ByteArray × Int)) (li : Bool) (xs ys : List (Int × Int)) (v pl ph al ah : Int) : List (Int × Int) := if putL vs fs rs li xs ys v pl ph al ah = true then ys.set v.toNat (putV (sizeAt rs v) ((ys[v.toNat]?).getD (0, 0)) al ah) else []
theorem putX_len (vs fs : List ByteArray) (rs : List (ByteArray × Int)) (li : Bool) (xs ys : List (Int × Int)) (v pl ph al ah : Int) : (putX vs fs rs li xs ys v pl ph al ah).length ≤ xs.length := by unfold putX; split <;> simp
theorem putY_len (vs fs : List ByteArray) (rs : List (ByteArray × Int)) (li : Bool) (xs ys : List (Int × Int)) (v pl ph al ah : Int) : (putY vs fs rs li xs ys v pl ph al ah).length ≤ ys.length := by unfold putY; split <;> simp
/-- What is not right. -/
theorem put_no {vs fs : List ByteArray} {rs : List (ByteArray × Int)} {li : Bool} {xs ys : List (Int × Int)} {v pl ph al ah : Int} (h : putOk vs fs rs li xs ys v pl ph al ah = false) : putL vs fs rs li xs ys v pl ph al ah = false ∧ putX vs fs rs li xs ys v pl ph al ah = [] ∧ putY vs fs rs li xs ys v pl ph al ah = [] ∧ putA vs fs rs li xs ys v pl ph al ah = 0 := by
  have e : putL vs fs rs li xs ys v pl ph al ah = false := by unfold putL; rw [h]; rfl
  refine ⟨e, ?_, ?_, ?_⟩
  · unfold putX; rw [e]; rfl
  · unfold putY; rw [e]; rfl
  · unfold putA; rw [h]; rfl
/-- What is right, and no place. -/
theorem put_none {vs fs : List ByteArray} {rs : List (ByteArray × Int)} {li : Bool} {xs ys : List (Int × Int)} {v pl ph al ah s : Int} (h : putOk vs fs rs li xs ys v pl ph al ah = true) (hs : sizeAt rs v = s) (hp : plS s pl ph = false) : putL vs fs rs li xs ys v pl ph al ah = false ∧ putX vs fs rs li xs ys v pl ph al ah = [] ∧ putY vs fs rs li xs ys v pl ph al ah = [] ∧ putA vs fs rs li xs ys v pl ph al ah = plA s pl ph := by
  have e : putL vs fs rs li xs ys v pl ph al ah = false := by unfold putL; rw [h, hs, hp]; rfl
  refine ⟨e, ?_, ?_, ?_⟩
  · unfold putX; rw [e]; rfl
  · unfold putY; rw [e]; rfl
  · unfold putA; rw [h, hs]; rfl
/-- What is right, and a place. -/
theorem put_some {vs fs : List ByteArray} {rs : List (ByteArray × Int)} {li : Bool} {xs ys : List (Int × Int)} {v pl ph al ah s : Int} {p : Int × Int} (h : putOk vs fs rs li xs ys v pl ph al ah = true) (hs : sizeAt rs v = s) (hp : plS s pl ph = true) (hy : ys[v.toNat]? = some p) : putL vs fs rs li xs ys v pl ph al ah = true ∧ putX vs fs rs li xs ys v pl ph al ah = xs ∧ putY vs fs rs li xs ys v pl ph al ah = ys.set v.toNat (putV s p al ah) ∧ putA vs fs rs li xs ys v pl ph al ah = plA s pl ph := by
  have e : putL vs fs rs li xs ys v pl ph al ah = true := by unfold putL; rw [h, hs, hp]; rfl
  refine ⟨e, ?_, ?_, ?_⟩
  · unfold putX; rw [e]; rfl
  · unfold putY; rw [e, hs, hy]; rfl
  · unfold putA; rw [h, hs]; rfl
/-- What a right declaration and right bounds say of an array. -/
theorem put_at {vs fs : List ByteArray} {rs : List (ByteArray × Int)} {xs ys : List (Int × Int)} {v : Int} (h : envB vs fs rs true xs ys = true) (hv : 0 ≤ v ∧ v < (rs.length : Int)) : ∃ (n : ByteArray) (s : Int) (p : Int × Int), rs[v.toNat]? = some (n, s) ∧ sizeAt rs v = s ∧ (1 ≤ s ∧ s ≤ 16) ∧ ys[v.toNat]? = some p ∧ p.1 ≤ p.2 := by
  have hl := env_len h rfl
  unfold envB at h
  rw [Bool.and_eq_true] at h
  have h1 := of_decide_eq_true h.1
  have h2 := of_decide_eq_true h.2
  have hk : v.toNat < rs.length := by omega
  have hy : v.toNat < ys.length := by omega
  have hr : rs[v.toNat]? = some (rs[v.toNat].1, rs[v.toNat].2) := List.getElem?_eq_getElem hk
  refine ⟨rs[v.toNat].1, rs[v.toNat].2, ys[v.toNat], hr, ?_, h1.2.2.2.1 v.toNat hk, List.getElem?_eq_getElem hy, ?_⟩
  · unfold sizeAt; rw [hr]; rfl
  · rcases h2 with ⟨h3, _⟩ | ⟨_, _, _, h4⟩
    · cases h3
    · have := h4 (xs.length + v.toNat) (by simp; omega)
      rw [List.getElem_append_right (by omega)] at this
      simpa using this
theorem bel_dP {u v : World} (h : Below u.drew.heap.size u.drew v) : Below u.heap.size u v := ((Below.refl _ u).drew).trans h
set_option maxRecDepth 20000 in
set_option maxHeartbeats 8000000 in
theorem iEnvPut_c (a1 a2 a3 : Option Addr) (c1 c2 c3 : Nat) (vs fs : List ByteArray) (rs : List (ByteArray × Int)) (li : Bool) (e1 e2 : Option Addr) (d1 d2 : Nat) (xs ys : List (Int × Int)) (v pl ph al ah : Int) (w : World) (hw : KW w) (hv : Strs w a1 vs) (hf : Strs w a2 fs) (hr : Arrs w a3 rs)
    (hz : ∀ x ∈ namesOf vs fs rs, x.size ≤ 1048576) (hx : Ivs w e1 xs) (hy : Ivs w e2 ys) :
    Calls Tryd.prog 23 #[.agg #[.slice a1 vs.length c1, .slice a2 fs.length c2, .slice a3 rs.length c3], .agg #[.bool li, .slice e1 xs.length d1, .slice e2 ys.length d2], .int .i64 v, .agg #[.int .i64 pl, .int .i64 ph], .agg #[.int .i64 al, .int .i64 ah]] w fun e w' => ∃ oa ca ob cb, e = .returned (.tuple #[.agg #[.bool (putL vs fs rs li xs ys v pl ph al ah), .slice oa (putX vs fs rs li xs ys v pl ph al ah).length ca, .slice ob (putY vs fs rs li xs ys v pl ph al ah).length cb], .int .i64 (putA vs fs rs li xs ys v pl ph al ah)]) ∧ RowsE w' w.heap.size oa ca ob cb (putX vs fs rs li xs ys v pl ph al ah) (putY vs fs rs li xs ys v pl ph al ah) ∧ Below w.heap.size w w' := by
  have HV := hide hv
  have HF := hide hf
  have HR := hide hr
  have HZ := hide hz
  have HX := hide hx
  have HY := hide hy
  have HW := hide hw
  have HB := hide (Q6p.new w (.slice a1 vs.length c1) (.slice a2 fs.length c2) (.slice a3 rs.length c3) (.bool li) (.slice e1 xs.length d1) (.slice e2 ys.length d2) pl ph al ah 27 30 47 47 30)
  clear hv hf hr hz hx hy hw
  go_enter Tryd.func23, Tryd.ntmps23
  go_wp2_with fail
  generalize ((((w.alloc (Obj.cells #[.slice a1 vs.length c1, .slice a2 fs.length c2, .slice a3 rs.length c3] 27)).alloc (Obj.cells #[.bool li, .slice e1 xs.length d1, .slice e2 ys.length d2] 30)).alloc (Obj.cells #[.int .i64 pl, .int .i64 ph] 47)).alloc (Obj.cells #[.int .i64 al, .int .i64 ah] 47)).alloc (Obj.cells #[.bool false, .slice none 0 0, .slice none 0 0] 30) = u at HB ⊢
  refine (iEnvOk_c a1 a2 a3 c1 c2 c3 vs fs rs li e1 e2 d1 d2 xs ys _ ((unhide HW).call (unhide HB).bel) ((unhide HV).call (unhide HB).bel) ((unhide HF).call (unhide HB).bel) ((unhide HR).call (unhide HB).bel) (unhide HZ) ((unhide HX).call (unhide HB).bel) ((unhide HY).call (unhide HB).bel)).mono ?_
  rintro e u1 ⟨rfl, kb⟩
  have HB := hide ((unhide HB).call kb)
  clear kb
  have p0 := (unhide HB).1.1
  have p1 := (unhide HB).1.2.1
  have p2 := (unhide HB).1.2.2.1
  have q0 := (unhide HB).2.1.1
  have q1 := (unhide HB).2.1.2.1
  have q2 := (unhide HB).2.1.2.2.1
  have i0 := (unhide HB).2.2.1.1
  have i1 := (unhide HB).2.2.1.2.1
  have j0 := (unhide HB).2.2.2.1.1
  have j1 := (unhide HB).2.2.2.1.2.1
  have r0 := (unhide HB).2.2.2.2.1.1
  have r1 := (unhide HB).2.2.2.2.1.2.1
  have r2 := (unhide HB).2.2.2.2.1.2.2.1
  have f0 := (unhide HB).2.2.2.2.1.2.2.2 0
  have f1 := (unhide HB).2.2.2.2.1.2.2.2 1
  have f2 := (unhide HB).2.2.2.2.1.2.2.2 2
  cases h1 : envB vs fs rs li xs ys
  · have HN := hide (put_no (show putOk vs fs rs li xs ys v pl ph al ah = false by unfold putOk; rw [h1]; rfl))
    clear h1
    go_wp2
    exact bodyPost_ret (v := .tuple #[.agg #[.bool false, .slice none 0 0, .slice none 0 0], .int .i64 0]) (by simp [results, Tryd.results23, go_sem, r0, r1, r2]) rfl ⟨none, 0, none, 0, by rw [(unhide HN).1, (unhide HN).2.1, (unhide HN).2.2.1, (unhide HN).2.2.2]; rfl, by rw [(unhide HN).2.1, (unhide HN).2.2.1]; exact rows_nil _ _, ((((unhide HB).bel.setCell (by first | exact Nat.le_add_right _ _ | (simp; done) | (simp; omega)) _).setCell (by first | exact Nat.le_add_right _ _ | (simp; done) | (simp; omega)) _).setCell (by first | exact Nat.le_add_right _ _ | (simp; done) | (simp; omega)) _)⟩
  have H1 := hide h1
  clear h1
  cases li
  · have HN := hide (put_no (show putOk vs fs rs false xs ys v pl ph al ah = false by unfold putOk; simp))
    go_wp2
    exact bodyPost_ret (v := .tuple #[.agg #[.bool false, .slice none 0 0, .slice none 0 0], .int .i64 0]) (by simp [results, Tryd.results23, go_sem, r0, r1, r2]) rfl ⟨none, 0, none, 0, by rw [(unhide HN).1, (unhide HN).2.1, (unhide HN).2.2.1, (unhide HN).2.2.2]; rfl, by rw [(unhide HN).2.1, (unhide HN).2.2.1]; exact rows_nil _ _, ((((unhide HB).bel.setCell (by first | exact Nat.le_add_right _ _ | (simp; done) | (simp; omega)) _).setCell (by first | exact Nat.le_add_right _ _ | (simp; done) | (simp; omega)) _).setCell (by first | exact Nat.le_add_right _ _ | (simp; done) | (simp; omega)) _)⟩
  have HL := hide (env_len (unhide H1) rfl)
  have lv : (rs.length : Int) ≤ 2 := by have := unhide HL; omega
  go_wp2_with fail
  refine (isBelow_c _ _ _).mono ?_
  rintro e u2 ⟨rfl, rfl⟩
  by_cases h2 : 0 ≤ v ∧ v < (rs.length : Int)
  case neg =>
    rw [decide_eq_false h2]
    have HN := hide (put_no (show putOk vs fs rs true xs ys v pl ph al ah = false by unfold putOk; rw [decide_eq_false h2]; simp))
    clear h2
    go_wp2
    exact bodyPost_ret (v := .tuple #[.agg #[.bool false, .slice none 0 0, .slice none 0 0], .int .i64 0]) (by simp [results, Tryd.results23, go_sem, r0, r1, r2]) rfl ⟨none, 0, none, 0, by rw [(unhide HN).1, (unhide HN).2.1, (unhide HN).2.2.1, (unhide HN).2.2.2]; rfl, by rw [(unhide HN).2.1, (unhide HN).2.2.1]; exact rows_nil _ _, ((((unhide HB).bel.setCell (by first | exact Nat.le_add_right _ _ | (simp; done) | (simp; omega)) _).setCell (by first | exact Nat.le_add_right _ _ | (simp; done) | (simp; omega)) _).setCell (by first | exact Nat.le_add_right _ _ | (simp; done) | (simp; omega)) _)⟩
  rw [decide_eq_true h2]
  go_wp2_with fail
  refine (bothOk_c _ _ _ _ _).mono ?_
  rintro e u3 ⟨rfl, kb⟩
  have HB := hide ((unhide HB).call kb)
  clear kb p0 p1 p2 q0 q1 q2 i0 i1 j0 j1 r0 r1 r2 f0 f1 f2
  have p0 := (unhide HB).1.1
  have p1 := (unhide HB).1.2.1
  have p2 := (unhide HB).1.2.2.1
  have q0 := (unhide HB).2.1.1
  have q1 := (unhide HB).2.1.2.1
  have q2 := (unhide HB).2.1.2.2.1
  have i0 := (unhide HB).2.2.1.1
  have i1 := (unhide HB).2.2.1.2.1
  have j0 := (unhide HB).2.2.2.1.1
  have j1 := (unhide HB).2.2.2.1.2.1
  have r0 := (unhide HB).2.2.2.2.1.1
  have r1 := (unhide HB).2.2.2.2.1.2.1
  have r2 := (unhide HB).2.2.2.2.1.2.2.1
  have f0 := (unhide HB).2.2.2.2.1.2.2.2 0
  have f1 := (unhide HB).2.2.2.2.1.2.2.2 1
  have f2 := (unhide HB).2.2.2.2.1.2.2.2 2
  cases h3 : bothB pl ph al ah
  · have HN := hide (put_no (show putOk vs fs rs true xs ys v pl ph al ah = false by unfold putOk; rw [h3]; simp))
    clear h3
    go_wp2
    exact bodyPost_ret (v := .tuple #[.agg #[.bool false, .slice none 0 0, .slice none 0 0], .int .i64 0]) (by simp [results, Tryd.results23, go_sem, r0, r1, r2]) rfl ⟨none, 0, none, 0, by rw [(unhide HN).1, (unhide HN).2.1, (unhide HN).2.2.1, (unhide HN).2.2.2]; rfl, by rw [(unhide HN).2.1, (unhide HN).2.2.1]; exact rows_nil _ _, ((((unhide HB).bel.setCell (by first | exact Nat.le_add_right _ _ | (simp; done) | (simp; omega)) _).setCell (by first | exact Nat.le_add_right _ _ | (simp; done) | (simp; omega)) _).setCell (by first | exact Nat.le_add_right _ _ | (simp; done) | (simp; omega)) _)⟩
  have HOK := hide (show putOk vs fs rs true xs ys v pl ph al ah = true by unfold putOk; rw [unhide H1, decide_eq_true h2, h3]; rfl)
  have HAH := hide (show al ≤ ah from (of_decide_eq_true h3).2)
  clear h3
  obtain ⟨nm, s, p, hrs, hsz, hs16, hyp, hpp⟩ := put_at (unhide H1) h2
  have HSZ := hide hsz
  have HYP := hide hyp
  have HPP := hide hpp
  obtain ⟨ab, ao, ea, hc⟩ : ∃ ab ao, a3 = some ⟨ab, ao, none⟩ ∧ u3.cell? ⟨ab, ao + v.toNat * 2 + 1, none⟩ = some (.int .i64 s) := by
    have hk : v.toNat < rs.length := by have := h2; omega
    rcases ((unhide HR).call (unhide HB).bel).2 with h0 | ⟨cb, co, he, hcell⟩
    · omega
    · have := (hcell v.toNat hk).2
      rw [List.getElem?_eq_getElem hk] at hrs
      rw [Option.some.inj hrs] at this
      exact ⟨cb, co, he, this⟩
  subst ea
  clear hsz hyp hpp hrs
  have hl0 := h2.1
  have hl1 := h2.2
  go_wp2_with fail
  refine (placesIn_c s pl ph hs16 _).mono ?_
  rintro e u4 ⟨rfl, kb⟩
  have HB := hide ((unhide HB).call kb)
  clear kb hc p0 p1 p2 q0 q1 q2 i0 i1 j0 j1 r0 r1 r2 f0 f1 f2
  have p0 := (unhide HB).1.1
  have p1 := (unhide HB).1.2.1
  have p2 := (unhide HB).1.2.2.1
  have q0 := (unhide HB).2.1.1
  have q1 := (unhide HB).2.1.2.1
  have q2 := (unhide HB).2.1.2.2.1
  have i0 := (unhide HB).2.2.1.1
  have i1 := (unhide HB).2.2.1.2.1
  have j0 := (unhide HB).2.2.2.1.1
  have j1 := (unhide HB).2.2.2.1.2.1
  have r0 := (unhide HB).2.2.2.2.1.1
  have r1 := (unhide HB).2.2.2.2.1.2.1
  have r2 := (unhide HB).2.2.2.2.1.2.2.1
  have f0 := (unhide HB).2.2.2.2.1.2.2.2 0
  have f1 := (unhide HB).2.2.2.2.1.2.2.2 1
  have f2 := (unhide HB).2.2.2.2.1.2.2.2 2
  cases h4 : plS s pl ph
  · have HN := hide (put_none (unhide HOK) (unhide HSZ) h4)
    clear h4
    generalize plA s pl ph = A at HN ⊢
    go_wp2
    exact bodyPost_ret (v := .tuple #[.agg #[.bool false, .slice none 0 0, .slice none 0 0], .int .i64 A]) (by simp [results, Tryd.results23, go_sem, r0, r1, r2]) rfl ⟨none, 0, none, 0, by rw [(unhide HN).1, (unhide HN).2.1, (unhide HN).2.2.1, (unhide HN).2.2.2]; rfl, by rw [(unhide HN).2.1, (unhide HN).2.2.1]; exact rows_nil _ _, ((((unhide HB).bel.setCell (by first | exact Nat.le_add_right _ _ | (simp; done) | (simp; omega)) _).setCell (by first | exact Nat.le_add_right _ _ | (simp; done) | (simp; omega)) _).setCell (by first | exact Nat.le_add_right _ _ | (simp; done) | (simp; omega)) _)⟩
  have HN := hide (put_some (unhide HOK) (unhide HSZ) h4 (unhide HYP))
  clear h4
  generalize plA s pl ph = A at HN ⊢
  go_wp2_with fail
  refine (copied_c (w.heap.size + 1) true e1 e2 d1 d2 xs ys _ (unhide HB).2.1 ((unhide HX).call (unhide HB).bel) ((unhide HY).call (unhide HB).bel) (by have := unhide HL; omega)).mono ?_
  rintro e u5 ⟨oa, ca, ob, cb, rfl, hrows, kb⟩
  have z3 : w.heap.size + 4 < u4.heap.size := (unhide HB).2.2.2.2.1.lt
  have ka := (Below.refl _ u5).alloc (Nat.le_refl _) (Obj.cells #[.bool true, .slice oa xs.length ca, .slice ob ys.length cb] 30)
  have HB := hide (((unhide HB).call kb).call ka)
  have HRW := hide (hrows.call ka)
  have HE := hide (C3.new u5 (.bool true) (.slice oa xs.length ca) (.slice ob ys.length cb) 30)
  have hly : v.toNat < ys.length := by have := unhide HL; omega
  have hly' : v < (ys.length : Int) := by have := unhide HL; omega
  obtain ⟨X, hX⟩ : ∃ X, X = u5.heap.size := ⟨_, rfl⟩
  obtain ⟨u6, hz⟩ : ∃ z, z = u5.alloc (Obj.cells #[.bool true, .slice oa xs.length ca, .slice ob ys.length cb] 30) := ⟨_, rfl⟩
  have zX : u4.heap.size ≤ X := by rw [hX]; exact kb.size
  have gX : ∀ g, ob = some ⟨g, 0, none⟩ → g < X := fun g e => by
    have := (hrows.2.1.lt g (by rw [e]; rfl)).2
    omega
  rw [← hX, ← hz] at HE
  rw [← hz] at HB HRW
  have hXZ := hide (And.intro hX hz)
  clear hX hz ka kb hrows p0 p1 p2 q0 q1 q2 i0 i1 j0 j1 r0 r1 r2 f0 f1 f2
  obtain ⟨g, hg, g1, g2, ⟨t0, t1⟩, gf, _⟩ := (unhide HRW).writeY hly (0, 0)
  have gX' := gX g hg
  subst hg
  have hpv : ys[v.toNat] = p := by have := unhide HYP; rw [List.getElem?_eq_getElem hly] at this; exact Option.some.inj this
  rw [hpv] at t0 t1
  clear hpv gX gf
  go_upto_region 8 with fail
  rw [← (unhide hXZ).1, ← (unhide hXZ).2]
  clear hXZ
  have HC := hide (unhide HB).2.2.2.2.1
  have HK := hide (unhide HB).bel
  have HJ := hide (unhide HB).2.2.2.1
  clear HB
  obtain ⟨p1, p2⟩ := p
  dsimp only at t0 t1
  by_cases hs1 : s = 1
  · subst hs1
    have HPV := hide (show putV 1 (p1, p2) al ah = (al, ah) from if_pos rfl)
    obtain ⟨g', hg', _, _, _, gf, hrows2⟩ := (unhide HRW).writeY hly (al, ah)
    obtain rfl : g = g' := by injection hg' with q; injection q
    have gf0 := gf (v.toNat * 2)
    have gf1 := gf (v.toNat * 2 + 1)
    have HR7 := hide hrows2
    have HE7 := hide (((unhide HE).other (c := g) (o := v.toNat * 2) (v := .int .i64 al) (by omega)).other (c := g) (o := v.toNat * 2 + 1) (v := .int .i64 ah) (by omega))
    have HC7 := hide (((unhide HC).other (c := g) (o := v.toNat * 2) (v := .int .i64 al) (by omega)).other (c := g) (o := v.toNat * 2 + 1) (v := .int .i64 ah) (by omega))
    have HK7 := hide (((unhide HK).setCell (p := ⟨g, v.toNat * 2, none⟩) (by show w.heap.size ≤ g; omega) (.int .i64 al)).setCell (p := ⟨g, v.toNat * 2 + 1, none⟩) (by show w.heap.size ≤ g; omega) (.int .i64 ah))
    have b2 := (unhide HE).2.2.1
    have j0 := (unhide HJ).1
    have j1 := (unhide HJ).2.1
    clear gf hrows2
    go_upto_region 11 with fail
    clear gf0 gf1 b2 j0 j1
    generalize (u6.setCell ⟨g, v.toNat * 2, none⟩ (.int .i64 al)).setCell ⟨g, v.toNat * 2 + 1, none⟩ (.int .i64 ah) = u7 at HR7 HE7 HC7 HK7 ⊢
    have y0 := (unhide HE7).1
    have y1 := (unhide HE7).2.1
    have y2 := (unhide HE7).2.2.1
    have r0 := (unhide HC7).1
    have r1 := (unhide HC7).2.1
    have r2 := (unhide HC7).2.2.1
    have f0 := (unhide HC7).2.2.2 0
    have f1 := (unhide HC7).2.2.2 1
    have f2 := (unhide HC7).2.2.2 2
    go_wp2
    exact bodyPost_ret (v := .tuple #[.agg #[.bool true, .slice oa xs.length ca, .slice (some ⟨g, 0, none⟩) ys.length cb], .int .i64 A]) (by simp [results, Tryd.results23, go_sem, r0, r1, r2]) rfl ⟨oa, ca, some ⟨g, 0, none⟩, cb, by rw [(unhide HN).1, (unhide HN).2.1, (unhide HN).2.2.1, (unhide HN).2.2.2, List.length_set], by rw [(unhide HN).2.1, (unhide HN).2.2.1, unhide HPV]; exact ((((unhide HR7).set (by omega)).set (by omega)).set (by omega)).down (by omega), ((((unhide HK7).setCell (by first | exact Nat.le_add_right _ _ | (simp; done) | (simp; omega)) _).setCell (by first | exact Nat.le_add_right _ _ | (simp; done) | (simp; omega)) _).setCell (by first | exact Nat.le_add_right _ _ | (simp; done) | (simp; omega)) _)⟩
  · have hgt : 1 < s := by omega
    have HPV := hide (show putV s (p1, p2) al ah = (joinL p1 p2 al ah, joinH p1 p2 al ah) by unfold putV joinL joinH; rw [if_neg hs1, if_pos ⟨unhide HPP, unhide HAH⟩, if_pos ⟨unhide HPP, unhide HAH⟩])
    have b2 := (unhide HE).2.2.1
    have j0 := (unhide HJ).1
    have j1 := (unhide HJ).2.1
    go_upto_region 9 with fail
    go_region_with (go_at_call 45; refine (IvJoin_c _ _ _ _ _).mono ?_; rintro e w1 ⟨rfl, hb⟩; have HE := hide ((unhide HE).call (bel_dP hb)); have HRW := hide ((unhide HRW).call (bel_dP hb)); have HC := hide ((unhide HC).call (bel_dP hb)); have HK := hide ((unhide HK).trans ((bel_dP hb).mono (unhide HK).size)); have HJ := hide ((unhide HJ).call (bel_dP hb)); have k0 := (unhide HJ).1; have k1 := (unhide HJ).2.1; have k2 := (unhide HJ).2.2.1 0; have k3 := (unhide HJ).2.2.1 1; clear hb)
    all_goals
      clear b2 j0 j1 t0 t1 k0 k1 k2 k3
      have HE := hide (((unhide HE).other (c := w.heap.size + 3) (o := 0) (v := .int .i64 (joinL p1 p2 al ah)) (by omega)).other (c := w.heap.size + 3) (o := 1) (v := .int .i64 (joinH p1 p2 al ah)) (by omega))
      have HC := hide (((unhide HC).other (c := w.heap.size + 3) (o := 0) (v := .int .i64 (joinL p1 p2 al ah)) (by omega)).other (c := w.heap.size + 3) (o := 1) (v := .int .i64 (joinH p1 p2 al ah)) (by omega))
      have HRW := hide (((unhide HRW).set (b := w.heap.size + 3) (o := 0) (x := .int .i64 (joinL p1 p2 al ah)) (by omega)).set (b := w.heap.size + 3) (o := 1) (x := .int .i64 (joinH p1 p2 al ah)) (by omega))
      have HK := hide (((unhide HK).setCell (p := ⟨w.heap.size + 3, 0, none⟩) (by show w.heap.size ≤ w.heap.size + 3; omega) (.int .i64 (joinL p1 p2 al ah))).setCell (p := ⟨w.heap.size + 3, 1, none⟩) (by show w.heap.size ≤ w.heap.size + 3; omega) (.int .i64 (joinH p1 p2 al ah)))
      have HJ := hide ((unhide HJ).stored (joinL p1 p2 al ah) (joinH p1 p2 al ah))
      generalize (w1.setCell ⟨w.heap.size + 3, 0, none⟩ (.int .i64 (joinL p1 p2 al ah))).setCell ⟨w.heap.size + 3, 1, none⟩ (.int .i64 (joinH p1 p2 al ah)) = u8 at HE HC HRW HK HJ ⊢
      generalize joinL p1 p2 al ah = x at HPV HJ ⊢
      generalize joinH p1 p2 al ah = y at HPV HJ ⊢
      obtain ⟨g', hg', _, _, _, gf, hrows2⟩ := (unhide HRW).writeY hly (x, y)
      obtain rfl : g = g' := by injection hg' with q; injection q
      have gf0 := gf (v.toNat * 2)
      have gf1 := gf (v.toNat * 2 + 1)
      have HR7 := hide hrows2
      have HE7 := hide (((unhide HE).other (c := g) (o := v.toNat * 2) (v := .int .i64 x) (by omega)).other (c := g) (o := v.toNat * 2 + 1) (v := .int .i64 y) (by omega))
      have HC7 := hide (((unhide HC).other (c := g) (o := v.toNat * 2) (v := .int .i64 x) (by omega)).other (c := g) (o := v.toNat * 2 + 1) (v := .int .i64 y) (by omega))
      have HK7 := hide (((unhide HK).setCell (p := ⟨g, v.toNat * 2, none⟩) (by show w.heap.size ≤ g; omega) (.int .i64 x)).setCell (p := ⟨g, v.toNat * 2 + 1, none⟩) (by show w.heap.size ≤ g; omega) (.int .i64 y))
      have b2 := (unhide HE).2.2.1
      have j0 := (unhide HJ).1
      have j1 := (unhide HJ).2.1
      clear gf hrows2
      go_upto_region 11 with fail
      clear gf0 gf1 b2 j0 j1
      generalize (u8.setCell ⟨g, v.toNat * 2, none⟩ (.int .i64 x)).setCell ⟨g, v.toNat * 2 + 1, none⟩ (.int .i64 y) = u7 at HR7 HE7 HC7 HK7 ⊢
      have y0 := (unhide HE7).1
      have y1 := (unhide HE7).2.1
      have y2 := (unhide HE7).2.2.1
      have r0 := (unhide HC7).1
      have r1 := (unhide HC7).2.1
      have r2 := (unhide HC7).2.2.1
      have f0 := (unhide HC7).2.2.2 0
      have f1 := (unhide HC7).2.2.2 1
      have f2 := (unhide HC7).2.2.2 2
      go_wp2
      exact bodyPost_ret (v := .tuple #[.agg #[.bool true, .slice oa xs.length ca, .slice (some ⟨g, 0, none⟩) ys.length cb], .int .i64 A]) (by simp [results, Tryd.results23, go_sem, r0, r1, r2]) rfl ⟨oa, ca, some ⟨g, 0, none⟩, cb, by rw [(unhide HN).1, (unhide HN).2.1, (unhide HN).2.2.1, (unhide HN).2.2.2, List.length_set], by rw [(unhide HN).2.1, (unhide HN).2.2.1, unhide HPV]; exact ((((unhide HR7).set (by omega)).set (by omega)).set (by omega)).down (by omega), ((((unhide HK7).setCell (by first | exact Nat.le_add_right _ _ | (simp; done) | (simp; omega)) _).setCell (by first | exact Nat.le_add_right _ _ | (simp; done) | (simp; omega)) _).setCell (by first | exact Nat.le_add_right _ _ | (simp; done) | (simp; omega)) _)⟩
end Go.Proofs.YthpnbmdmkmkicaaDoor

/- What is put into an array: the specification's EnvPut. -/
namespace Go.Proofs.YthpnbmdmkmkicaaDoor
open Go.RowKit
set_option linter.unusedSimpArgs false
set_option linter.unusedVariables false

set_option maxRecDepth 20000 in
set_option maxHeartbeats 8000000 in
theorem l7Put_c (a1 a2 a3 : Option Addr) (c1 c2 c3 : Nat) (vs fs : List ByteArray) (rs : List (ByteArray × Int)) (e1 e2 : Option Addr) (d1 d2 : Nat) (xs ys : List (Int × Int)) (v pl ph al ah : Int) (w : World) (hr : Arrs w a3 rs) (hx : Ivs w e1 xs) (hy : Ivs w e2 ys) (h1 : envB vs fs rs true xs ys = true) (h2 : 0 ≤ v ∧ v < (rs.length : Int)) (hah : al ≤ ah) (hok : putOk vs fs rs true xs ys v pl ph al ah = true) :
    Calls Tryd.prog 60 #[.agg #[.slice a1 vs.length c1, .slice a2 fs.length c2, .slice a3 rs.length c3], .agg #[.bool true, .slice e1 xs.length d1, .slice e2 ys.length d2], .int .i64 v, .agg #[.int .i64 pl, .int .i64 ph], .agg #[.int .i64 al, .int .i64 ah]] w fun e w' => ∃ oa ca ob cb, e = .returned (.tuple #[.agg #[.bool (putL vs fs rs true xs ys v pl ph al ah), .slice oa (putX vs fs rs true xs ys v pl ph al ah).length ca, .slice ob (putY vs fs rs true xs ys v pl ph al ah).length cb], .int .i64 (putA vs fs rs true xs ys v pl ph al ah)]) ∧ RowsE w' w.heap.size oa ca ob cb (putX vs fs rs true xs ys v pl ph al ah) (putY vs fs rs true xs ys v pl ph al ah) ∧ Below w.heap.size w w' := by
  have HR := hide hr
  have HX := hide hx
  have HY := hide hy
  have HB := hide (Q6p.new w (.slice a1 vs.length c1) (.slice a2 fs.length c2) (.slice a3 rs.length c3) (.bool true) (.slice e1 xs.length d1) (.slice e2 ys.length d2) pl ph al ah 27 30 47 47 30)
  clear hr hx hy
  have HOK := hide hok
  have H1 := hide h1
  have HL := hide (env_len h1 rfl)
  have HAH := hide hah
  obtain ⟨nm, s, p, hrs, hsz, hs16, hyp, hpp⟩ := put_at h1 h2
  have HSZ := hide hsz
  have HYP := hide hyp
  have HPP := hide hpp
  have hl0 := h2.1
  have hl1 := h2.2
  have lv : (rs.length : Int) ≤ 2 := by have := unhide HL; omega
  go_enter Tryd.func60, Tryd.ntmps60
  go_upto_region 1 with fail
  generalize ((((w.alloc (Obj.cells #[.slice a1 vs.length c1, .slice a2 fs.length c2, .slice a3 rs.length c3] 27)).alloc (Obj.cells #[.bool true, .slice e1 xs.length d1, .slice e2 ys.length d2] 30)).alloc (Obj.cells #[.int .i64 pl, .int .i64 ph] 47)).alloc (Obj.cells #[.int .i64 al, .int .i64 ah] 47)).alloc (Obj.cells #[.bool false, .slice none 0 0, .slice none 0 0] 30) = u at HB ⊢
  obtain ⟨ab, ao, ea, hc⟩ : ∃ ab ao, a3 = some ⟨ab, ao, none⟩ ∧ u.cell? ⟨ab, ao + v.toNat * 2 + 1, none⟩ = some (.int .i64 s) := by
    have hk : v.toNat < rs.length := by have := h2; omega
    rcases ((unhide HR).call (unhide HB).bel).2 with h0 | ⟨cb, co, he, hcell⟩
    · omega
    · have := (hcell v.toNat hk).2
      rw [List.getElem?_eq_getElem hk] at hrs
      rw [Option.some.inj hrs] at this
      exact ⟨cb, co, he, this⟩
  subst ea
  clear hsz hyp hpp hrs hok h1 hah
  have p0 := (unhide HB).1.1
  have p1 := (unhide HB).1.2.1
  have p2 := (unhide HB).1.2.2.1
  have q0 := (unhide HB).2.1.1
  have q1 := (unhide HB).2.1.2.1
  have q2 := (unhide HB).2.1.2.2.1
  have i0 := (unhide HB).2.2.1.1
  have i1 := (unhide HB).2.2.1.2.1
  have j0 := (unhide HB).2.2.2.1.1
  have j1 := (unhide HB).2.2.2.1.2.1
  have r0 := (unhide HB).2.2.2.2.1.1
  have r1 := (unhide HB).2.2.2.2.1.2.1
  have r2 := (unhide HB).2.2.2.2.1.2.2.1
  have f0 := (unhide HB).2.2.2.2.1.2.2.2 0
  have f1 := (unhide HB).2.2.2.2.1.2.2.2 1
  have f2 := (unhide HB).2.2.2.2.1.2.2.2 2
  go_wp2_with fail
  refine (l7Place_c s pl ph hs16 _).mono ?_
  rintro e u4 ⟨rfl, kb⟩
  have HB := hide ((unhide HB).call kb)
  clear kb hc p0 p1 p2 q0 q1 q2 i0 i1 j0 j1 r0 r1 r2 f0 f1 f2
  have p0 := (unhide HB).1.1
  have p1 := (unhide HB).1.2.1
  have p2 := (unhide HB).1.2.2.1
  have q0 := (unhide HB).2.1.1
  have q1 := (unhide HB).2.1.2.1
  have q2 := (unhide HB).2.1.2.2.1
  have i0 := (unhide HB).2.2.1.1
  have i1 := (unhide HB).2.2.1.2.1
  have j0 := (unhide HB).2.2.2.1.1
  have j1 := (unhide HB).2.2.2.1.2.1
  have r0 := (unhide HB).2.2.2.2.1.1
  have r1 := (unhide HB).2.2.2.2.1.2.1
  have r2 := (unhide HB).2.2.2.2.1.2.2.1
  have f0 := (unhide HB).2.2.2.2.1.2.2.2 0
  have f1 := (unhide HB).2.2.2.2.1.2.2.2 1
  have f2 := (unhide HB).2.2.2.2.1.2.2.2 2
  cases h4 : plS s pl ph
  · have HN := hide (put_none (unhide HOK) (unhide HSZ) h4)
    clear h4
    generalize plA s pl ph = A at HN ⊢
    go_wp2
    exact bodyPost_ret (v := .tuple #[.agg #[.bool false, .slice none 0 0, .slice none 0 0], .int .i64 A]) (by simp [results, Tryd.results60, go_sem, r0, r1, r2]) rfl ⟨none, 0, none, 0, by rw [(unhide HN).1, (unhide HN).2.1, (unhide HN).2.2.1, (unhide HN).2.2.2]; rfl, by rw [(unhide HN).2.1, (unhide HN).2.2.1]; exact rows_nil _ _, ((((unhide HB).bel.setCell (by first | exact Nat.le_add_right _ _ | (simp; done) | (simp; omega)) _).setCell (by first | exact Nat.le_add_right _ _ | (simp; done) | (simp; omega)) _).setCell (by first | exact Nat.le_add_right _ _ | (simp; done) | (simp; omega)) _)⟩
  have HN := hide (put_some (unhide HOK) (unhide HSZ) h4 (unhide HYP))
  clear h4
  generalize plA s pl ph = A at HN ⊢
  go_wp2_with fail
  refine (l6Copy_c true e1 e2 d1 d2 xs ys _ ((unhide HX).call (unhide HB).bel) ((unhide HY).call (unhide HB).bel) (by have := unhide HL; omega)).mono ?_
  rintro e u5 ⟨oa, ca, ob, cb, rfl, hrows, kb⟩
  have z3 : w.heap.size + 4 < u4.heap.size := (unhide HB).2.2.2.2.1.lt
  have ka := (Below.refl _ u5).alloc (Nat.le_refl _) (Obj.cells #[.bool true, .slice oa xs.length ca, .slice ob ys.length cb] 30)
  have HB := hide (((unhide HB).call kb).call ka)
  have HRW := hide (hrows.call ka)
  have HE := hide (C3.new u5 (.bool true) (.slice oa xs.length ca) (.slice ob ys.length cb) 30)
  have hly : v.toNat < ys.length := by have := unhide HL; omega
  have hly' : v < (ys.length : Int) := by have := unhide HL; omega
  obtain ⟨X, hX⟩ : ∃ X, X = u5.heap.size := ⟨_, rfl⟩
  obtain ⟨u6, hz⟩ : ∃ z, z = u5.alloc (Obj.cells #[.bool true, .slice oa xs.length ca, .slice ob ys.length cb] 30) := ⟨_, rfl⟩
  have zX : u4.heap.size ≤ X := by rw [hX]; exact kb.size
  have gX : ∀ g, ob = some ⟨g, 0, none⟩ → g < X := fun g e => by
    have := (hrows.2.1.lt g (by rw [e]; rfl)).2
    omega
  rw [← hX, ← hz] at HE
  rw [← hz] at HB HRW
  have hXZ := hide (And.intro hX hz)
  clear hX hz ka kb hrows p0 p1 p2 q0 q1 q2 i0 i1 j0 j1 r0 r1 r2 f0 f1 f2
  obtain ⟨g, hg, g1, g2, ⟨t0, t1⟩, gf, _⟩ := (unhide HRW).writeY hly (0, 0)
  have gX' := gX g hg
  subst hg
  have hpv : ys[v.toNat] = p := by have := unhide HYP; rw [List.getElem?_eq_getElem hly] at this; exact Option.some.inj this
  rw [hpv] at t0 t1
  clear hpv gX gf
  go_upto_region 6 with fail
  rw [← (unhide hXZ).1, ← (unhide hXZ).2]
  clear hXZ
  have HC := hide (unhide HB).2.2.2.2.1
  have HK := hide (unhide HB).bel
  have HJ := hide (unhide HB).2.2.2.1
  clear HB
  obtain ⟨p1, p2⟩ := p
  dsimp only at t0 t1
  by_cases hs1 : s = 1
  · subst hs1
    have HPV := hide (show putV 1 (p1, p2) al ah = (al, ah) from if_pos rfl)
    obtain ⟨g', hg', _, _, _, gf, hrows2⟩ := (unhide HRW).writeY hly (al, ah)
    obtain rfl : g = g' := by injection hg' with q; injection q
    have gf0 := gf (v.toNat * 2)
    have gf1 := gf (v.toNat * 2 + 1)
    have HR7 := hide hrows2
    have HE7 := hide (((unhide HE).other (c := g) (o := v.toNat * 2) (v := .int .i64 al) (by omega)).other (c := g) (o := v.toNat * 2 + 1) (v := .int .i64 ah) (by omega))
    have HC7 := hide (((unhide HC).other (c := g) (o := v.toNat * 2) (v := .int .i64 al) (by omega)).other (c := g) (o := v.toNat * 2 + 1) (v := .int .i64 ah) (by omega))
    have HK7 := hide (((unhide HK).setCell (p := ⟨g, v.toNat * 2, none⟩) (by show w.heap.size ≤ g; omega) (.int .i64 al)).setCell (p := ⟨g, v.toNat * 2 + 1, none⟩) (by show w.heap.size ≤ g; omega) (.int .i64 ah))
    clear gf hrows2
    have b2 := (unhide HE).2.2.1
    have j0 := (unhide HJ).1
    have j1 := (unhide HJ).2.1
    go_upto_region 9 with fail
    clear gf0 gf1 b2 j0 j1
    generalize (u6.setCell ⟨g, v.toNat * 2, none⟩ (.int .i64 al)).setCell ⟨g, v.toNat * 2 + 1, none⟩ (.int .i64 ah) = u7 at HR7 HE7 HC7 HK7 ⊢
    have y0 := (unhide HE7).1
    have y1 := (unhide HE7).2.1
    have y2 := (unhide HE7).2.2.1
    have r0 := (unhide HC7).1
    have r1 := (unhide HC7).2.1
    have r2 := (unhide HC7).2.2.1
    have f0 := (unhide HC7).2.2.2 0
    have f1 := (unhide HC7).2.2.2 1
    have f2 := (unhide HC7).2.2.2 2
    go_wp2
    exact bodyPost_ret (v := .tuple #[.agg #[.bool true, .slice oa xs.length ca, .slice (some ⟨g, 0, none⟩) ys.length cb], .int .i64 A]) (by simp [results, Tryd.results60, go_sem, r0, r1, r2]) rfl ⟨oa, ca, some ⟨g, 0, none⟩, cb, by rw [(unhide HN).1, (unhide HN).2.1, (unhide HN).2.2.1, (unhide HN).2.2.2, List.length_set], by rw [(unhide HN).2.1, (unhide HN).2.2.1, unhide HPV]; exact ((((unhide HR7).set (by omega)).set (by omega)).set (by omega)).down (by omega), ((((unhide HK7).setCell (by first | exact Nat.le_add_right _ _ | (simp; done) | (simp; omega)) _).setCell (by first | exact Nat.le_add_right _ _ | (simp; done) | (simp; omega)) _).setCell (by first | exact Nat.le_add_right _ _ | (simp; done) | (simp; omega)) _)⟩
  · have HPV := hide (show putV s (p1, p2) al ah = (mn p1 al, mx p2 ah) from if_neg hs1)
    have b2 := (unhide HE).2.2.1
    have j0 := (unhide HJ).1
    have j1 := (unhide HJ).2.1
    go_upto_region 8 with fail
    go_region_with (go_at_call 72; refine (l2Join_c _ _ _ _ _).mono ?_; rintro e w1 ⟨rfl, hb⟩; have HE := hide ((unhide HE).call (bel_dP hb)); have HRW := hide ((unhide HRW).call (bel_dP hb)); have HC := hide ((unhide HC).call (bel_dP hb)); have HK := hide ((unhide HK).trans ((bel_dP hb).mono (unhide HK).size)); obtain ⟨g'', hg'', _, _, ⟨k0, k1⟩, kf, _⟩ := (unhide HRW).writeY hly (0, 0); obtain rfl : g = g'' := (by injection hg'' with q; injection q); have k2 := kf (v.toNat * 2); have k3 := kf (v.toNat * 2 + 1); have b3 := (unhide HE).2.2.1; clear hb kf hg'')
    all_goals
      clear b2 b3 j0 j1 t0 t1 k0 k1 k2 k3
      obtain ⟨g', hg', _, _, _, gf, hrows2⟩ := (unhide HRW).writeY hly ((mn p1 al), (mx p2 ah))
      obtain rfl : g = g' := by injection hg' with q; injection q
      have HR7 := hide hrows2
      have HE7 := hide (((unhide HE).other (c := g) (o := v.toNat * 2) (v := .int .i64 (mn p1 al)) (by omega)).other (c := g) (o := v.toNat * 2 + 1) (v := .int .i64 (mx p2 ah)) (by omega))
      have HC7 := hide (((unhide HC).other (c := g) (o := v.toNat * 2) (v := .int .i64 (mn p1 al)) (by omega)).other (c := g) (o := v.toNat * 2 + 1) (v := .int .i64 (mx p2 ah)) (by omega))
      have HK7 := hide (((unhide HK).setCell (p := ⟨g, v.toNat * 2, none⟩) (by show w.heap.size ≤ g; omega) (.int .i64 (mn p1 al))).setCell (p := ⟨g, v.toNat * 2 + 1, none⟩) (by show w.heap.size ≤ g; omega) (.int .i64 (mx p2 ah)))
      clear gf hrows2
      generalize (w1.setCell ⟨g, v.toNat * 2, none⟩ (.int .i64 (mn p1 al))).setCell ⟨g, v.toNat * 2 + 1, none⟩ (.int .i64 (mx p2 ah)) = u7 at HR7 HE7 HC7 HK7 ⊢
      have y0 := (unhide HE7).1
      have y1 := (unhide HE7).2.1
      have y2 := (unhide HE7).2.2.1
      have r0 := (unhide HC7).1
      have r1 := (unhide HC7).2.1
      have r2 := (unhide HC7).2.2.1
      have f0 := (unhide HC7).2.2.2 0
      have f1 := (unhide HC7).2.2.2 1
      have f2 := (unhide HC7).2.2.2 2
      go_wp2
      exact bodyPost_ret (v := .tuple #[.agg #[.bool true, .slice oa xs.length ca, .slice (some ⟨g, 0, none⟩) ys.length cb], .int .i64 A]) (by simp [results, Tryd.results60, go_sem, r0, r1, r2]) rfl ⟨oa, ca, some ⟨g, 0, none⟩, cb, by rw [(unhide HN).1, (unhide HN).2.1, (unhide HN).2.2.1, (unhide HN).2.2.2, List.length_set], by rw [(unhide HN).2.1, (unhide HN).2.2.1, unhide HPV]; exact ((((unhide HR7).set (by omega)).set (by omega)).set (by omega)).down (by omega), ((((unhide HK7).setCell (by first | exact Nat.le_add_right _ _ | (simp; done) | (simp; omega)) _).setCell (by first | exact Nat.le_add_right _ _ | (simp; done) | (simp; omega)) _).setCell (by first | exact Nat.le_add_right _ _ | (simp; done) | (simp; omega)) _)⟩
set_option maxRecDepth 20000 in
set_option maxHeartbeats 8000000 in
theorem sEnvPut_c (a1 a2 a3 : Option Addr) (c1 c2 c3 : Nat) (vs fs : List ByteArray) (rs : List (ByteArray × Int)) (li : Bool) (e1 e2 : Option Addr) (d1 d2 : Nat) (xs ys : List (Int × Int)) (v pl ph al ah : Int) (w : World) (hv : Strs w a1 vs) (hf : Strs w a2 fs) (hr : Arrs w a3 rs)
    (hz : ∀ x ∈ namesOf vs fs rs, x.size ≤ 1048576) (hx : Ivs w e1 xs) (hy : Ivs w e2 ys) :
    Calls Tryd.prog 24 #[.agg #[.slice a1 vs.length c1, .slice a2 fs.length c2, .slice a3 rs.length c3], .agg #[.bool li, .slice e1 xs.length d1, .slice e2 ys.length d2], .int .i64 v, .agg #[.int .i64 pl, .int .i64 ph], .agg #[.int .i64 al, .int .i64 ah]] w fun e w' => ∃ oa ca ob cb, e = .returned (.tuple #[.agg #[.bool (putL vs fs rs li xs ys v pl ph al ah), .slice oa (putX vs fs rs li xs ys v pl ph al ah).length ca, .slice ob (putY vs fs rs li xs ys v pl ph al ah).length cb], .int .i64 (putA vs fs rs li xs ys v pl ph al ah)]) ∧ RowsE w' w.heap.size oa ca ob cb (putX vs fs rs li xs ys v pl ph al ah) (putY vs fs rs li xs ys v pl ph al ah) ∧ Below w.heap.size w w' := by
  have HV := hide hv
  have HF := hide hf
  have HR := hide hr
  have HZ := hide hz
  have HX := hide hx
  have HY := hide hy
  have HB := hide (Q6p.new w (.slice a1 vs.length c1) (.slice a2 fs.length c2) (.slice a3 rs.length c3) (.bool li) (.slice e1 xs.length d1) (.slice e2 ys.length d2) pl ph al ah 27 30 47 47 30)
  clear hv hf hr hz hx hy
  go_enter Tryd.func24, Tryd.ntmps24
  go_wp2_with fail
  generalize ((((w.alloc (Obj.cells #[.slice a1 vs.length c1, .slice a2 fs.length c2, .slice a3 rs.length c3] 27)).alloc (Obj.cells #[.bool li, .slice e1 xs.length d1, .slice e2 ys.length d2] 30)).alloc (Obj.cells #[.int .i64 pl, .int .i64 ph] 47)).alloc (Obj.cells #[.int .i64 al, .int .i64 ah] 47)).alloc (Obj.cells #[.bool false, .slice none 0 0, .slice none 0 0] 30) = u at HB ⊢
  refine (sEnvOk_c a1 a2 a3 c1 c2 c3 vs fs rs li e1 e2 d1 d2 xs ys _ ((unhide HV).call (unhide HB).bel) ((unhide HF).call (unhide HB).bel) ((unhide HR).call (unhide HB).bel) (unhide HZ) ((unhide HX).call (unhide HB).bel) ((unhide HY).call (unhide HB).bel)).mono ?_
  rintro e u1 ⟨rfl, kb⟩
  have HB := hide ((unhide HB).call kb)
  clear kb
  have p0 := (unhide HB).1.1
  have p1 := (unhide HB).1.2.1
  have p2 := (unhide HB).1.2.2.1
  have q0 := (unhide HB).2.1.1
  have q1 := (unhide HB).2.1.2.1
  have q2 := (unhide HB).2.1.2.2.1
  have i0 := (unhide HB).2.2.1.1
  have i1 := (unhide HB).2.2.1.2.1
  have j0 := (unhide HB).2.2.2.1.1
  have j1 := (unhide HB).2.2.2.1.2.1
  have r0 := (unhide HB).2.2.2.2.1.1
  have r1 := (unhide HB).2.2.2.2.1.2.1
  have r2 := (unhide HB).2.2.2.2.1.2.2.1
  have f0 := (unhide HB).2.2.2.2.1.2.2.2 0
  have f1 := (unhide HB).2.2.2.2.1.2.2.2 1
  have f2 := (unhide HB).2.2.2.2.1.2.2.2 2
  cases h1 : envB vs fs rs li xs ys
  · have HN := hide (put_no (show putOk vs fs rs li xs ys v pl ph al ah = false by unfold putOk; rw [h1]; rfl))
    clear h1
    go_wp2
    exact bodyPost_ret (v := .tuple #[.agg #[.bool false, .slice none 0 0, .slice none 0 0], .int .i64 0]) (by simp [results, Tryd.results24, go_sem, r0, r1, r2]) rfl ⟨none, 0, none, 0, by rw [(unhide HN).1, (unhide HN).2.1, (unhide HN).2.2.1, (unhide HN).2.2.2]; rfl, by rw [(unhide HN).2.1, (unhide HN).2.2.1]; exact rows_nil _ _, ((((unhide HB).bel.setCell (by first | exact Nat.le_add_right _ _ | (simp; done) | (simp; omega)) _).setCell (by first | exact Nat.le_add_right _ _ | (simp; done) | (simp; omega)) _).setCell (by first | exact Nat.le_add_right _ _ | (simp; done) | (simp; omega)) _)⟩
  have H1 := hide h1
  clear h1
  cases li
  · have HN := hide (put_no (show putOk vs fs rs false xs ys v pl ph al ah = false by unfold putOk; simp))
    go_wp2
    exact bodyPost_ret (v := .tuple #[.agg #[.bool false, .slice none 0 0, .slice none 0 0], .int .i64 0]) (by simp [results, Tryd.results24, go_sem, r0, r1, r2]) rfl ⟨none, 0, none, 0, by rw [(unhide HN).1, (unhide HN).2.1, (unhide HN).2.2.1, (unhide HN).2.2.2]; rfl, by rw [(unhide HN).2.1, (unhide HN).2.2.1]; exact rows_nil _ _, ((((unhide HB).bel.setCell (by first | exact Nat.le_add_right _ _ | (simp; done) | (simp; omega)) _).setCell (by first | exact Nat.le_add_right _ _ | (simp; done) | (simp; omega)) _).setCell (by first | exact Nat.le_add_right _ _ | (simp; done) | (simp; omega)) _)⟩
  have HL := hide (env_len (unhide H1) rfl)
  have lv : (rs.length : Int) ≤ 2 := by have := unhide HL; omega
  have ew : wrap64 ((rs.length : Int) - 1) = (rs.length : Int) - 1 := by unfold wrap64; omega
  go_wp2_with fail
  refine (l1In_c _ _ _ _).mono ?_
  rintro e u2 ⟨rfl, rfl⟩
  by_cases h2 : 0 ≤ v ∧ v < (rs.length : Int)
  case neg =>
    have dd : inB v 0 ((rs.length : Int) - 1) = false := decide_eq_false (by omega)
    have HN := hide (put_no (show putOk vs fs rs true xs ys v pl ph al ah = false by unfold putOk; rw [decide_eq_false h2]; simp))
    clear h2
    go_wp2
    exact bodyPost_ret (v := .tuple #[.agg #[.bool false, .slice none 0 0, .slice none 0 0], .int .i64 0]) (by simp [results, Tryd.results24, go_sem, r0, r1, r2]) rfl ⟨none, 0, none, 0, by rw [(unhide HN).1, (unhide HN).2.1, (unhide HN).2.2.1, (unhide HN).2.2.2]; rfl, by rw [(unhide HN).2.1, (unhide HN).2.2.1]; exact rows_nil _ _, ((((unhide HB).bel.setCell (by first | exact Nat.le_add_right _ _ | (simp; done) | (simp; omega)) _).setCell (by first | exact Nat.le_add_right _ _ | (simp; done) | (simp; omega)) _).setCell (by first | exact Nat.le_add_right _ _ | (simp; done) | (simp; omega)) _)⟩
  have dd : inB v 0 ((rs.length : Int) - 1) = true := decide_eq_true (by omega)
  go_wp2_with fail
  refine (sIvOk_c _ _ _).mono ?_
  rintro e u3 ⟨rfl, kb⟩
  have HB := hide ((unhide HB).call kb)
  clear kb p0 p1 p2 q0 q1 q2 i0 i1 j0 j1 r0 r1 r2 f0 f1 f2
  have p0 := (unhide HB).1.1
  have p1 := (unhide HB).1.2.1
  have p2 := (unhide HB).1.2.2.1
  have q0 := (unhide HB).2.1.1
  have q1 := (unhide HB).2.1.2.1
  have q2 := (unhide HB).2.1.2.2.1
  have i0 := (unhide HB).2.2.1.1
  have i1 := (unhide HB).2.2.1.2.1
  have j0 := (unhide HB).2.2.2.1.1
  have j1 := (unhide HB).2.2.2.1.2.1
  have r0 := (unhide HB).2.2.2.2.1.1
  have r1 := (unhide HB).2.2.2.2.1.2.1
  have r2 := (unhide HB).2.2.2.2.1.2.2.1
  have f0 := (unhide HB).2.2.2.2.1.2.2.2 0
  have f1 := (unhide HB).2.2.2.2.1.2.2.2 1
  have f2 := (unhide HB).2.2.2.2.1.2.2.2 2
  cases h3 : okB pl ph
  · have HN := hide (put_no (show putOk vs fs rs true xs ys v pl ph al ah = false by have h3' := of_decide_eq_false h3; unfold putOk bothB; simp [h3']))
    clear h3
    go_wp2
    exact bodyPost_ret (v := .tuple #[.agg #[.bool false, .slice none 0 0, .slice none 0 0], .int .i64 0]) (by simp [results, Tryd.results24, go_sem, r0, r1, r2]) rfl ⟨none, 0, none, 0, by rw [(unhide HN).1, (unhide HN).2.1, (unhide HN).2.2.1, (unhide HN).2.2.2]; rfl, by rw [(unhide HN).2.1, (unhide HN).2.2.1]; exact rows_nil _ _, ((((unhide HB).bel.setCell (by first | exact Nat.le_add_right _ _ | (simp; done) | (simp; omega)) _).setCell (by first | exact Nat.le_add_right _ _ | (simp; done) | (simp; omega)) _).setCell (by first | exact Nat.le_add_right _ _ | (simp; done) | (simp; omega)) _)⟩
  have H3 := hide (show pl ≤ ph from of_decide_eq_true h3)
  clear h3
  go_wp2_with fail
  refine (sIvOk_c _ _ _).mono ?_
  rintro e u4 ⟨rfl, kb⟩
  have HB := hide ((unhide HB).call kb)
  clear kb p0 p1 p2 q0 q1 q2 i0 i1 j0 j1 r0 r1 r2 f0 f1 f2
  have p0 := (unhide HB).1.1
  have p1 := (unhide HB).1.2.1
  have p2 := (unhide HB).1.2.2.1
  have q0 := (unhide HB).2.1.1
  have q1 := (unhide HB).2.1.2.1
  have q2 := (unhide HB).2.1.2.2.1
  have i0 := (unhide HB).2.2.1.1
  have i1 := (unhide HB).2.2.1.2.1
  have j0 := (unhide HB).2.2.2.1.1
  have j1 := (unhide HB).2.2.2.1.2.1
  have r0 := (unhide HB).2.2.2.2.1.1
  have r1 := (unhide HB).2.2.2.2.1.2.1
  have r2 := (unhide HB).2.2.2.2.1.2.2.1
  have f0 := (unhide HB).2.2.2.2.1.2.2.2 0
  have f1 := (unhide HB).2.2.2.2.1.2.2.2 1
  have f2 := (unhide HB).2.2.2.2.1.2.2.2 2
  cases h3 : okB al ah
  · have HN := hide (put_no (show putOk vs fs rs true xs ys v pl ph al ah = false by have h3' := of_decide_eq_false h3; unfold putOk bothB; simp [h3']))
    clear h3
    go_wp2
    exact bodyPost_ret (v := .tuple #[.agg #[.bool false, .slice none 0 0, .slice none 0 0], .int .i64 0]) (by simp [results, Tryd.results24, go_sem, r0, r1, r2]) rfl ⟨none, 0, none, 0, by rw [(unhide HN).1, (unhide HN).2.1, (unhide HN).2.2.1, (unhide HN).2.2.2]; rfl, by rw [(unhide HN).2.1, (unhide HN).2.2.1]; exact rows_nil _ _, ((((unhide HB).bel.setCell (by first | exact Nat.le_add_right _ _ | (simp; done) | (simp; omega)) _).setCell (by first | exact Nat.le_add_right _ _ | (simp; done) | (simp; omega)) _).setCell (by first | exact Nat.le_add_right _ _ | (simp; done) | (simp; omega)) _)⟩
  have HAH := hide (show al ≤ ah from of_decide_eq_true h3)
  have HOK := hide (show putOk vs fs rs true xs ys v pl ph al ah = true by unfold putOk bothB; rw [unhide H1, decide_eq_true h2, decide_eq_true (And.intro (unhide H3) (unhide HAH))]; rfl)
  clear h3
  go_wp2_with fail
  refine (l7Put_c a1 a2 a3 c1 c2 c3 vs fs rs e1 e2 d1 d2 xs ys v pl ph al ah _ ((unhide HR).call (unhide HB).bel) ((unhide HX).call (unhide HB).bel) ((unhide HY).call (unhide HB).bel) (unhide H1) h2 (unhide HAH) (unhide HOK)).mono ?_
  rintro e u5 ⟨oa, ca, ob, cb, rfl, hrows, kb⟩
  have z3 : w.heap.size + 4 < u4.heap.size := (unhide HB).2.2.2.2.1.lt
  have HB := hide ((unhide HB).call kb)
  have HRW := hide hrows
  clear kb hrows p0 p1 p2 q0 q1 q2 i0 i1 j0 j1 r0 r1 r2 f0 f1 f2
  have p0 := (unhide HB).1.1
  have p1 := (unhide HB).1.2.1
  have p2 := (unhide HB).1.2.2.1
  have q0 := (unhide HB).2.1.1
  have q1 := (unhide HB).2.1.2.1
  have q2 := (unhide HB).2.1.2.2.1
  have i0 := (unhide HB).2.2.1.1
  have i1 := (unhide HB).2.2.1.2.1
  have j0 := (unhide HB).2.2.2.1.1
  have j1 := (unhide HB).2.2.2.1.2.1
  have r0 := (unhide HB).2.2.2.2.1.1
  have r1 := (unhide HB).2.2.2.2.1.2.1
  have r2 := (unhide HB).2.2.2.2.1.2.2.1
  have f0 := (unhide HB).2.2.2.2.1.2.2.2 0
  have f1 := (unhide HB).2.2.2.2.1.2.2.2 1
  have f2 := (unhide HB).2.2.2.2.1.2.2.2 2
  go_wp2
  exact bodyPost_ret (v := .tuple #[.agg #[.bool (putL vs fs rs true xs ys v pl ph al ah), .slice oa (putX vs fs rs true xs ys v pl ph al ah).length ca, .slice ob (putY vs fs rs true xs ys v pl ph al ah).length cb], .int .i64 (putA vs fs rs true xs ys v pl ph al ah)]) (by simp [results, Tryd.results24, go_sem, r0, r1, r2]) rfl ⟨oa, ca, ob, cb, rfl, ((((unhide HRW).set (b := w.heap.size + 4) z3).set (b := w.heap.size + 4) z3).set (b := w.heap.size + 4) z3).down (B' := w.heap.size) (by omega), ((((unhide HB).bel.setCell (by first | exact Nat.le_add_right _ _ | (simp; done) | (simp; omega)) _).setCell (by first | exact Nat.le_add_right _ _ | (simp; done) | (simp; omega)) _).setCell (by first | exact Nat.le_add_right _ _ | (simp; done) | (simp; omega)) _)⟩
end Go.Proofs.YthpnbmdmkmkicaaDoor

