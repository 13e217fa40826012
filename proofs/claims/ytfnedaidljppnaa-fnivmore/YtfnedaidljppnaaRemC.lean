/- The specification's remainders of intervals. -/
import Derived.Test.YtfnedaidljppnaaRemB
import Derived.Test.YtfnedaidljppnaaSpF
import Derived.Test.YtfnedaidljppnaaSpecC
namespace Go.Proofs.Ytfnedaidljppnaa
open Go.RowKit Go.Iv
set_option linter.unusedSimpArgs false

/-- An answer of four cells of the call's own, as it is now. -/
def C4 (b : Nat) (x y : Int) (l : Bool) (u : Int) (w : World) : Prop :=
  (w.cell? ⟨b, 0, none⟩ = some (.int .i64 x) ∧ w.cell? ⟨b, 1, none⟩ = some (.int .i64 y) ∧ w.cell? ⟨b, 2, none⟩ = some (.bool l) ∧ w.cell? ⟨b, 3, none⟩ = some (.int .i64 u)) ∧ b < w.heap.size ∧ ∀ o, w.frozen? ⟨b, o, none⟩ = false
theorem C4.to {b c : Nat} {x y : Int} {l : Bool} {u : Int} {w w1 : World} (hb : Below c w w1) (hbc : b < c) (h : C4 b x y l u w) : C4 b x y l u w1 := by
  obtain ⟨⟨c0, c1, c2, c3⟩, h3, h4⟩ := h
  have := hb.size
  exact ⟨⟨(hb.cell (by exact hbc)).trans c0, (hb.cell (by exact hbc)).trans c1, (hb.cell (by exact hbc)).trans c2, (hb.cell (by exact hbc)).trans c3⟩, by omega, fun o => (hb.frozen (by exact hbc)).trans (h4 o)⟩
theorem C4.call {b : Nat} {x y : Int} {l : Bool} {u : Int} {w w1 : World} (hb : Below w.heap.size w w1) (h : C4 b x y l u w) : C4 b x y l u w1 := C4.to hb h.2.1 h
theorem C4.set3 {b : Nat} {x y : Int} {l : Bool} {u : Int} {w : World} (h : C4 b x y l u w) (v : Int) : C4 b x y l v (w.setCell ⟨b, 3, none⟩ (.int .i64 v)) := by
  obtain ⟨⟨c0, c1, c2, c3⟩, h3, h4⟩ := h
  exact ⟨⟨by simp [go_sem, c0], by simp [go_sem, c1], by simp [go_sem, c2], by simp [go_sem, c3]⟩, by simpa [World.setCell] using h3, fun o => (World.frozen?_setCell _ _ _ _).trans (h4 o)⟩
theorem C4.set2 {b : Nat} {x y : Int} {l : Bool} {u : Int} {w : World} (h : C4 b x y l u w) (v : Bool) : C4 b x y v u (w.setCell ⟨b, 2, none⟩ (.bool v)) := by
  obtain ⟨⟨c0, c1, c2, c3⟩, h3, h4⟩ := h
  exact ⟨⟨by simp [go_sem, c0], by simp [go_sem, c1], by simp [go_sem, c2], by simp [go_sem, c3]⟩, by simpa [World.setCell] using h3, fun o => (World.frozen?_setCell _ _ _ _).trans (h4 o)⟩
theorem C4.set1 {b : Nat} {x y : Int} {l : Bool} {u : Int} {w : World} (h : C4 b x y l u w) (v : Int) : C4 b x v l u (w.setCell ⟨b, 1, none⟩ (.int .i64 v)) := by
  obtain ⟨⟨c0, c1, c2, c3⟩, h3, h4⟩ := h
  exact ⟨⟨by simp [go_sem, c0], by simp [go_sem, c1], by simp [go_sem, c2], by simp [go_sem, c3]⟩, by simpa [World.setCell] using h3, fun o => (World.frozen?_setCell _ _ _ _).trans (h4 o)⟩
theorem C4.set0 {b : Nat} {x y : Int} {l : Bool} {u : Int} {w : World} (h : C4 b x y l u w) (v : Int) : C4 b v y l u (w.setCell ⟨b, 0, none⟩ (.int .i64 v)) := by
  obtain ⟨⟨c0, c1, c2, c3⟩, h3, h4⟩ := h
  exact ⟨⟨by simp [go_sem, c0], by simp [go_sem, c1], by simp [go_sem, c2], by simp [go_sem, c3]⟩, by simpa [World.setCell] using h3, fun o => (World.frozen?_setCell _ _ _ _).trans (h4 o)⟩
/-- What the walk knows between two statements: the two pairs, the fresh result in block w.heap.size + 2, the answer in the making in block b. -/
def RS (w : World) (al ah bl bh : Int) (b : Nat) (x y : Int) (l : Bool) (u : Int) (wr : World) : Prop :=
  S2 w w.heap.size w.heap.size al ah bl bh wr ∧ Z4 w.heap.size w.heap.size (w.heap.size + 2) wr ∧ C4 b x y l u wr ∧ w.heap.size + 2 < b
theorem RS.call {w wr w1 : World} {al ah bl bh : Int} {b : Nat} {x y : Int} {l : Bool} {u : Int} (hb : Below wr.heap.size wr w1) (h : RS w al ah bl bh b x y l u wr) : RS w al ah bl bh b x y l u w1 :=
  ⟨S2.call hb h.1, Z4.call hb h.2.1, C4.call hb h.2.2.1, h.2.2.2⟩
theorem RS.set {w wr : World} {al ah bl bh : Int} {b o : Nat} {x y x' y' : Int} {l l' : Bool} {u u' : Int} {v : Value} (h : RS w al ah bl bh b x y l u wr) (hc : C4 b x' y' l' u' (wr.setCell ⟨b, o, none⟩ v)) : RS w al ah bl bh b x' y' l' u' (wr.setCell ⟨b, o, none⟩ v) := by
  have k : Below b wr (wr.setCell ⟨b, o, none⟩ v) := (Below.refl b wr).setCell (p := ⟨b, o, none⟩) (Nat.le_refl _) v
  have hz := h.2.2.2
  obtain ⟨⟨c0, c1, c2, c3⟩, h1, h2, h3, h4⟩ := h.2.1
  have hs := k.size
  exact ⟨S2.set h.1 (by omega) (by omega) _, ⟨⟨(k.cell (by exact hz)).trans c0, (k.cell (by exact hz)).trans c1, (k.cell (by exact hz)).trans c2, (k.cell (by exact hz)).trans c3⟩, h1, h2, by omega, fun o => (k.frozen (by exact hz)).trans (h4 o)⟩, hc, hz⟩

def M1 (bl bh : Int) : Int := max (dist bl) (dist bh) - 1
theorem M1_in (bl bh : Int) (hbl : In bl) (hbh : In bh) (h0 : ¬ (bl = 0 ∧ bh = 0)) : 0 ≤ M1 bl bh ∧ M1 bl bh ≤ 9223372036854775807 := by
  unfold In at hbl hbh; unfold M1 dist; omega
theorem M1_eq (bl bh : Int) : mx (sh bl) (sh bh) = M1 bl bh := by
  rw [mx_eq]; unfold sh M1 dist; split <;> split <;> omega
theorem reL_spec (al ah bl bh : Int) (h1 : ¬ (al = ah ∧ bl = bh)) (hbl : In bl) (hbh : In bh) (h0 : ¬ (bl = 0 ∧ bh = 0)) : reL al ah bl bh = if al < 0 then mx (-(M1 bl bh)) al else 0 := by
  have := M1_in bl bh hbl hbh h0
  unfold reL; rw [if_neg h1, M1_eq bl bh, mn_eq, mx_eq]; split <;> omega
theorem reH_spec (al ah bl bh : Int) (h1 : ¬ (al = ah ∧ bl = bh)) (hbl : In bl) (hbh : In bh) (h0 : ¬ (bl = 0 ∧ bh = 0)) : reH al ah bl bh = if 0 < ah then mn (M1 bl bh) ah else 0 := by
  have := M1_in bl bh hbl hbh h0
  unfold reH; rw [if_neg h1, M1_eq bl bh, mn_eq, mx_eq]; split <;> omega
theorem parts_none (bl bh : Int) (h : bl ≤ bh) : (partsL bl bh).length = 0 ↔ bl = 0 ∧ bh = 0 := by
  unfold partsL
  by_cases h1 : bl < 0 <;> by_cases h2 : 0 < bh <;> simp [h1, h2] <;> omega
set_option maxHeartbeats 4000000 in
theorem sRem_ok (al ah bl bh : Int) (w : World) (hal : In al) (hbl : In bl) (hbh : In bh) (h1 : al ≤ ah) (h2 : bl ≤ bh) : Calls Try.prog 32 #[.agg #[.int .i64 al, .int .i64 ah], .agg #[.int .i64 bl, .int .i64 bh]] w fun e w' => e = .returned (.agg #[.int .i64 (remV al ah bl bh).lo, .int .i64 (remV al ah bl bh).hi, .bool (remV al ah bl bh).live, .int .i64 (remV al ah bl bh).al]) ∧ Below w.heap.size w w' := by
  obtain ⟨V, hV⟩ : ∃ V, V = remV al ah bl bh := ⟨_, rfl⟩
  rw [← hV]
  have e1 : okB al ah = true := decide_eq_true h1
  have e2 : okB bl bh = true := decide_eq_true h2
  have HI := hide (And.intro hal (And.intro hbl (And.intro hbh (And.intro h1 h2))))
  have HV := hide hV
  clear hV h1 h2 hal hbl hbh
  go_enter Try.func32, Try.ntmps32
  go_wp2_with fail
  refine (sIvOk_c _ _ _).mono ?_
  rintro e w1 ⟨rfl, hb1⟩
  have B1 := hb1.mono (show w.heap.size + 3 ≤ _ by simp)
  clear hb1
  obtain ⟨hc1, hf1⟩ := bcellB B1
  have HB1 := hide B1
  clear B1
  go_wp2_with fail
  refine (sIvOk_c _ _ _).mono ?_
  rintro e w2 ⟨rfl, hb2⟩
  have B2 := (unhide HB1).trans (hb2.mono (by have := (unhide HB1).size; simp at this; omega))
  clear hb2 hc1 hf1 HB1
  have hs0 : S2 w w.heap.size w.heap.size al ah bl bh w2 := by
    have z := B2.size
    simp at z
    exact ⟨(B2.cell (by show w.heap.size < _; omega)).trans (by simp [go_sem]), (B2.cell (by show w.heap.size < _; omega)).trans (by simp [go_sem]), (B2.cell (by show w.heap.size + 1 < _; omega)).trans (by simp [go_sem]), (B2.cell (by show w.heap.size + 1 < _; omega)).trans (by simp [go_sem]), ((((Below.refl _ w).alloc (Nat.le_refl _) _).alloc (by simp) _).alloc (by simp; omega) _).trans (B2.mono (by omega)), by omega, by omega⟩
  have hr : Z4 w.heap.size w.heap.size (w.heap.size + 2) w2 := by
    have z := B2.size
    simp at z
    exact ⟨⟨(B2.cell (by show w.heap.size + 2 < _; omega)).trans (by simp [go_sem]), (B2.cell (by show w.heap.size + 2 < _; omega)).trans (by simp [go_sem]), (B2.cell (by show w.heap.size + 2 < _; omega)).trans (by simp [go_sem]), (B2.cell (by show w.heap.size + 2 < _; omega)).trans (by simp [go_sem])⟩, by omega, by omega, by omega, fun o => (B2.frozen (by show w.heap.size + 2 < _; omega)).trans (by simp [go_sem])⟩
  clear B2
  have p0 : ∀ o, (w2.alloc o).cell? ⟨w.heap.size + 1, 0, none⟩ = some (.int .i64 bl) := fun o => (S2.alloc hs0 o).2.2.1
  have p1 : ∀ o, (w2.alloc o).cell? ⟨w.heap.size + 1, 1, none⟩ = some (.int .i64 bh) := fun o => (S2.alloc hs0 o).2.2.2.1
  have hrs := hide (show RS w al ah bl bh w2.heap.size 0 0 false 0 (w2.alloc (Obj.cells #[.int .i64 0, .int .i64 0, .bool false, .int .i64 0] 30)) from ⟨S2.alloc hs0 _, Z4.call ((Below.refl _ _).alloc (Nat.le_refl _) _) hr, ⟨⟨by simp, by simp, by simp, by simp⟩, by simp, fun o => by simp [go_sem]⟩, hr.2.2.2.1⟩)
  clear hs0 hr
  go_wp2_with fail
  refine (sIvHas_c _ _ _ _).mono ?_
  rintro e w4 ⟨rfl, hb4⟩
  have RS4 := hide (RS.call hb4 (unhide hrs))
  clear hb4 hrs p0 p1
  go_upto_if 19 with fail
  generalize w2.heap.size = b at RS4 ⊢
  go_cut [] (fun wc => RS w al ah bl bh b 0 0 false (dvA bl bh) wc)
  case first =>
    obtain ⟨⟨c0, c1, c2, c3⟩, c4, c5⟩ := (unhide RS4).2.2.1
    have f3 := c5 3
    clear c5
    go_wp2
    · go_meet
      rw [show dvA bl bh = 1 from if_pos (by assumption)]
      exact (unhide RS4).set ((unhide RS4).2.2.1.set3 1)
    · go_meet
      rw [show dvA bl bh = 0 from if_neg (by rw [show hasB bl bh 0 = false by assumption]; decide)]
      exact unhide RS4
  case rest =>
  clear RS4
  obtain ⟨A, hA⟩ : ∃ A, A = dvA bl bh := ⟨_, rfl⟩
  rw [← hA] at hcut
  have HA := hide hA
  clear hA
  have p0 := hcut.1.2.2.1
  have p1 := hcut.1.2.2.2.1
  have RS5 := hide hcut
  clear hcut
  go_wp2_with fail
  refine (l2Parts_c _ _ _).mono ?_
  rintro e w5 ⟨v, rfl, hpr⟩
  have RS6 := hide (RS.call hpr.2.2.2.1 (unhide RS5))
  obtain ⟨g, cap, rfl, hg, _⟩ := hpr.cells
  clear hpr p0 p1 RS5 hg
  obtain ⟨⟨c0, c1, c2, c3⟩, c4, c5⟩ := (unhide RS6).2.2.1
  have f0 := c5 0
  have f1 := c5 1
  have f2 := c5 2
  have f3 := c5 3
  clear c5
  obtain ⟨⟨r0, r1, r2, r3⟩, _, _, r4, r5⟩ := (unhide RS6).2.1
  have g0 := r5 0
  have g1 := r5 1
  have g2 := r5 2
  have g3 := r5 3
  clear r5
  have nb := (unhide RS6).2.2.2
  have ne1 : ¬ w.heap.size + 2 = b := by omega
  have ne2 : ¬ b = w.heap.size + 2 := by omega
  have s0 := (unhide RS6).1.1
  have s1 := (unhide RS6).1.2.1
  have s2 := (unhide RS6).1.2.2.1
  have s3 := (unhide RS6).1.2.2.2.1
  have K6 := hide (unhide RS6).1.2.2.2.2.1
  by_cases h0 : bl = 0 ∧ bh = 0
  · have hl : ((partsL bl bh).length : Int) = 0 := by have := (parts_none bl bh (unhide HI).2.2.2.2).2 h0; omega
    have hv := hide (show V = ⟨0, 0, false, A⟩ by rw [unhide HV, unhide HA]; unfold remV; rw [if_pos (unhide HI).2.2.2, if_pos h0, h0.1, h0.2]; rfl)
    clear h0
    go_wp2
    exact bodyPost_ret (v := .agg #[.int .i64 0, .int .i64 0, .bool false, .int .i64 A]) (by simp [results, Try.results32, go_sem, *]) rfl ⟨by rw [unhide hv], ((((unhide K6).setCell (by simp; omega) _).setCell (by simp; omega) _).setCell (by simp; omega) _).setCell (by simp; omega) _⟩
  · have hl : (((partsL bl bh).length : Int) == 0) = false := by
      have := mt (parts_none bl bh (unhide HI).2.2.2.2).1 h0
      simp only [beq_eq_false_iff_ne, ne_eq]; omega
    have RS7 := hide ((unhide RS6).set ((unhide RS6).2.2.1.set2 true))
    by_cases h1 : al = ah ∧ bl = bh
    · have e3 : (al == ah) = true := by simpa using h1.1
      have e4 : (bl == bh) = true := by simpa using h1.2
      have hv := hide (show V = ⟨reN al bl, reN al bl, true, A⟩ by rw [unhide HV, unhide HA]; unfold remV; rw [if_pos (unhide HI).2.2.2, if_neg h0]; unfold reL reH; rw [if_pos h1, if_pos h1])
      clear h0 h1 RS7
      go_wp2_with fail
      refine (sNumRem_c _ _ (unhide HI).1 _).mono ?_
      rintro e w7 ⟨rfl, rfl⟩
      go_wp2
      exact bodyPost_ret (v := .agg #[.int .i64 (reN al bl), .int .i64 (reN al bl), .bool true, .int .i64 A]) (by simp [results, Try.results32, go_sem, *]) rfl ⟨by rw [unhide hv], (((((((unhide K6).setCell (by first | (simp; done) | (simp; omega)) _).setCell (by first | (simp; done) | (simp; omega)) _).setCell (by first | (simp; done) | (simp; omega)) _).setCell (by first | (simp; done) | (simp; omega)) _).setCell (by first | (simp; done) | (simp; omega)) _).setCell (by first | (simp; done) | (simp; omega)) _).setCell (by first | (simp; done) | (simp; omega)) _⟩
    · obtain ⟨D, hD⟩ : ∃ D, D = mx (dist bl) (dist bh) := ⟨_, rfl⟩
      have q0 := hmx (dist bl) (dist bh)
      rw [← hD] at q0
      have hM : M1 bl bh = D - 1 := by rw [hD, mx_eq]; rfl
      have hin := M1_in bl bh (unhide HI).2.1 (unhide HI).2.2.1 h0
      rw [hM] at hin
      obtain ⟨b1, b2⟩ := hin
      have q1 := hmx (-(D - 1)) al
      have q2 := hmn (D - 1) ah
      have hv := hide (show V = ⟨if al < 0 then mx (-(D - 1)) al else 0, if 0 < ah then mn (D - 1) ah else 0, true, A⟩ by
        rw [unhide HV, unhide HA]; unfold remV
        rw [if_pos (unhide HI).2.2.2, if_neg h0, reL_spec al ah bl bh h1 (unhide HI).2.1 (unhide HI).2.2.1 h0, reH_spec al ah bl bh h1 (unhide HI).2.1 (unhide HI).2.2.1 h0, hM])
      clear hM hD h0 RS7
      by_cases e3 : al = ah
      · have e4 : (bl == bh) = false := by
          have : ¬ bl = bh := fun h => h1 ⟨e3, h⟩
          simpa using this
        have e5 : (al == ah) = true := by simpa using e3
        clear h1 e3
        go_wp2
        go_quiet (first
          | (go_at_call_of 56 (Value.int IntKind.i64 bl); exact Calls.quiet_of_same (sAbs_c _ (unhide HI).2.1 _))
          | (go_at_call_of 56 (Value.int IntKind.i64 bh); exact Calls.quiet_of_same (sAbs_c _ (unhide HI).2.2.1 _)))
        go_wp2
        · exact bodyPost_ret (v := .agg #[.int .i64 (mx (-(D - 1)) al), .int .i64 (mn (D - 1) ah), .bool true, .int .i64 A]) (by simp [results, Try.results32, go_sem, *]) rfl ⟨by rw [unhide hv]; simp only [if_pos (show al < 0 by omega), if_pos (show 0 < ah by omega)], ((((((below_drewN ((unhide K6).setCell (by first | (simp; done) | (simp; omega)) _) _).setCell (by first | (simp; done) | (simp; omega)) _).setCell (by first | (simp; done) | (simp; omega)) _).setCell (by first | (simp; done) | (simp; omega)) _).setCell (by first | (simp; done) | (simp; omega)) _).setCell (by first | (simp; done) | (simp; omega)) _).setCell (by first | (simp; done) | (simp; omega)) _⟩
        · exact bodyPost_ret (v := .agg #[.int .i64 (mx (-(D - 1)) al), .int .i64 (0), .bool true, .int .i64 A]) (by simp [results, Try.results32, go_sem, *]) rfl ⟨by rw [unhide hv]; simp only [if_pos (show al < 0 by omega), if_neg (show ¬ 0 < ah by omega)], (((((below_drewN ((unhide K6).setCell (by first | (simp; done) | (simp; omega)) _) _).setCell (by first | (simp; done) | (simp; omega)) _).setCell (by first | (simp; done) | (simp; omega)) _).setCell (by first | (simp; done) | (simp; omega)) _).setCell (by first | (simp; done) | (simp; omega)) _).setCell (by first | (simp; done) | (simp; omega)) _⟩
        · exact bodyPost_ret (v := .agg #[.int .i64 (0), .int .i64 (mn (D - 1) ah), .bool true, .int .i64 A]) (by simp [results, Try.results32, go_sem, *]) rfl ⟨by rw [unhide hv]; simp only [if_neg (show ¬ al < 0 by omega), if_pos (show 0 < ah by omega)], (((((below_drewN ((unhide K6).setCell (by first | (simp; done) | (simp; omega)) _) _).setCell (by first | (simp; done) | (simp; omega)) _).setCell (by first | (simp; done) | (simp; omega)) _).setCell (by first | (simp; done) | (simp; omega)) _).setCell (by first | (simp; done) | (simp; omega)) _).setCell (by first | (simp; done) | (simp; omega)) _⟩
        · exact bodyPost_ret (v := .agg #[.int .i64 (0), .int .i64 (0), .bool true, .int .i64 A]) (by simp [results, Try.results32, go_sem, *]) rfl ⟨by rw [unhide hv]; simp only [if_neg (show ¬ al < 0 by omega), if_neg (show ¬ 0 < ah by omega)], ((((below_drewN ((unhide K6).setCell (by first | (simp; done) | (simp; omega)) _) _).setCell (by first | (simp; done) | (simp; omega)) _).setCell (by first | (simp; done) | (simp; omega)) _).setCell (by first | (simp; done) | (simp; omega)) _).setCell (by first | (simp; done) | (simp; omega)) _⟩
      · have e5 : (al == ah) = false := by simpa using e3
        clear h1 e3
        go_wp2
        go_quiet (first
          | (go_at_call_of 56 (Value.int IntKind.i64 bl); exact Calls.quiet_of_same (sAbs_c _ (unhide HI).2.1 _))
          | (go_at_call_of 56 (Value.int IntKind.i64 bh); exact Calls.quiet_of_same (sAbs_c _ (unhide HI).2.2.1 _)))
        go_wp2
        · exact bodyPost_ret (v := .agg #[.int .i64 (mx (-(D - 1)) al), .int .i64 (mn (D - 1) ah), .bool true, .int .i64 A]) (by simp [results, Try.results32, go_sem, *]) rfl ⟨by rw [unhide hv]; simp only [if_pos (show al < 0 by omega), if_pos (show 0 < ah by omega)], ((((((below_drewN ((unhide K6).setCell (by first | (simp; done) | (simp; omega)) _) _).setCell (by first | (simp; done) | (simp; omega)) _).setCell (by first | (simp; done) | (simp; omega)) _).setCell (by first | (simp; done) | (simp; omega)) _).setCell (by first | (simp; done) | (simp; omega)) _).setCell (by first | (simp; done) | (simp; omega)) _).setCell (by first | (simp; done) | (simp; omega)) _⟩
        · exact bodyPost_ret (v := .agg #[.int .i64 (mx (-(D - 1)) al), .int .i64 (0), .bool true, .int .i64 A]) (by simp [results, Try.results32, go_sem, *]) rfl ⟨by rw [unhide hv]; simp only [if_pos (show al < 0 by omega), if_neg (show ¬ 0 < ah by omega)], (((((below_drewN ((unhide K6).setCell (by first | (simp; done) | (simp; omega)) _) _).setCell (by first | (simp; done) | (simp; omega)) _).setCell (by first | (simp; done) | (simp; omega)) _).setCell (by first | (simp; done) | (simp; omega)) _).setCell (by first | (simp; done) | (simp; omega)) _).setCell (by first | (simp; done) | (simp; omega)) _⟩
        · exact bodyPost_ret (v := .agg #[.int .i64 (0), .int .i64 (mn (D - 1) ah), .bool true, .int .i64 A]) (by simp [results, Try.results32, go_sem, *]) rfl ⟨by rw [unhide hv]; simp only [if_neg (show ¬ al < 0 by omega), if_pos (show 0 < ah by omega)], (((((below_drewN ((unhide K6).setCell (by first | (simp; done) | (simp; omega)) _) _).setCell (by first | (simp; done) | (simp; omega)) _).setCell (by first | (simp; done) | (simp; omega)) _).setCell (by first | (simp; done) | (simp; omega)) _).setCell (by first | (simp; done) | (simp; omega)) _).setCell (by first | (simp; done) | (simp; omega)) _⟩
        · exact bodyPost_ret (v := .agg #[.int .i64 (0), .int .i64 (0), .bool true, .int .i64 A]) (by simp [results, Try.results32, go_sem, *]) rfl ⟨by rw [unhide hv]; simp only [if_neg (show ¬ al < 0 by omega), if_neg (show ¬ 0 < ah by omega)], ((((below_drewN ((unhide K6).setCell (by first | (simp; done) | (simp; omega)) _) _).setCell (by first | (simp; done) | (simp; omega)) _).setCell (by first | (simp; done) | (simp; omega)) _).setCell (by first | (simp; done) | (simp; omega)) _).setCell (by first | (simp; done) | (simp; omega)) _⟩
set_option maxHeartbeats 1000000 in
theorem sRem_bad (al ah bl bh : Int) (w : World) (h : ¬ (al ≤ ah ∧ bl ≤ bh)) : Calls Try.prog 32 #[.agg #[.int .i64 al, .int .i64 ah], .agg #[.int .i64 bl, .int .i64 bh]] w fun e w' => e = .returned (.agg #[.int .i64 (remV al ah bl bh).lo, .int .i64 (remV al ah bl bh).hi, .bool (remV al ah bl bh).live, .int .i64 (remV al ah bl bh).al]) ∧ Below w.heap.size w w' := by
  have e3 := hide (show remV al ah bl bh = zeroV by unfold remV; exact if_neg h)
  rw [unhide e3]
  clear e3
  by_cases h1 : al ≤ ah
  · have e1 : okB al ah = true := decide_eq_true h1
    have e2 : okB bl bh = false := decide_eq_false (fun h2 => h ⟨h1, h2⟩)
    clear h h1
    go_enter Try.func32, Try.ntmps32
    go_wp2_with fail
    refine (sIvOk_c _ _ _).mono ?_
    rintro e w1 ⟨rfl, hb1⟩
    have B1 := hb1.mono (show w.heap.size + 3 ≤ _ by simp)
    clear hb1
    obtain ⟨hc1, hf1⟩ := bcellB B1
    have HB1 := hide B1
    clear B1
    go_wp2_with fail
    refine (sIvOk_c _ _ _).mono ?_
    rintro e w2 ⟨rfl, hb2⟩
    have B2 := (unhide HB1).trans (hb2.mono (by have := (unhide HB1).size; simp at this; omega))
    clear hb2 hc1 hf1 HB1
    obtain ⟨hc2, hf2⟩ := bcellB B2
    have K3 := hide (((((Below.refl _ w).alloc (Nat.le_refl _) _).alloc (by simp) _).alloc (by simp; omega) _).trans (B2.mono (by omega)))
    clear B2
    go_wp2
    exact bodyPost_ret (v := .agg #[.int .i64 0, .int .i64 0, .bool false, .int .i64 0]) (by simp [results, Try.results32, go_sem, hc2]) rfl ⟨rfl, ((((unhide K3).setCell (by simp; omega) _).setCell (by simp; omega) _).setCell (by simp; omega) _).setCell (by simp; omega) _⟩
  · have e1 : okB al ah = false := decide_eq_false h1
    clear h h1
    go_enter Try.func32, Try.ntmps32
    go_wp2_with fail
    refine (sIvOk_c _ _ _).mono ?_
    rintro e w1 ⟨rfl, hb1⟩
    have B1 := hb1.mono (show w.heap.size + 3 ≤ _ by simp)
    clear hb1
    obtain ⟨hc1, hf1⟩ := bcellB B1
    have K3 := hide (((((Below.refl _ w).alloc (Nat.le_refl _) _).alloc (by simp) _).alloc (by simp; omega) _).trans (B1.mono (by omega)))
    clear B1
    go_wp2
    exact bodyPost_ret (v := .agg #[.int .i64 0, .int .i64 0, .bool false, .int .i64 0]) (by simp [results, Try.results32, go_sem, hc1]) rfl ⟨rfl, ((((unhide K3).setCell (by simp; omega) _).setCell (by simp; omega) _).setCell (by simp; omega) _).setCell (by simp; omega) _⟩
theorem sIvRem_c (al ah bl bh : Int) (hal : In al) (_ : In ah) (hbl : In bl) (hbh : In bh) (w : World) : Calls Try.prog 32 #[.agg #[.int .i64 al, .int .i64 ah], .agg #[.int .i64 bl, .int .i64 bh]] w fun e w' => e = .returned (.agg #[.int .i64 (remV al ah bl bh).lo, .int .i64 (remV al ah bl bh).hi, .bool (remV al ah bl bh).live, .int .i64 (remV al ah bl bh).al]) ∧ Below w.heap.size w w' := by
  by_cases h : al ≤ ah ∧ bl ≤ bh
  · exact sRem_ok al ah bl bh w hal hbl hbh h.1 h.2
  · exact sRem_bad al ah bl bh w h
end Go.Proofs.Ytfnedaidljppnaa
