/- The program's quotients of intervals. -/
import Derived.Test.YtfnedaidljppnaaOpD
namespace Go.Proofs.Ytfnedaidljppnaa
open Go.RowKit Go.Iv
set_option linter.unusedSimpArgs false

/-- The corners of a quotient: of the numbers below 0, and of those above. -/
def quoL (al ah bl bh : Int) : List Int :=
  (if bl < 0 then [al.tdiv bl, al.tdiv (min bh (-1)), ah.tdiv bl, ah.tdiv (min bh (-1))] else []) ++ (if 0 < bh then [al.tdiv (max bl 1), al.tdiv bh, ah.tdiv (max bl 1), ah.tdiv bh] else [])
def quoV (al ah bl bh : Int) : V := if al ≤ ah ∧ bl ≤ bh then { spanL (quoL al ah bl bh) with al := bits .or .i64 (spanL (quoL al ah bl bh)).al (dvA bl bh) } else zeroV

theorem own_below {w w' : World} {base : Nat} {e : TypeId} {size n : Nat} {v : Value} {xs : List Value} (h : w.ownsRow base e size v n xs) (k : Below w.heap.size w w') : w'.ownsRow base e size v n xs := by
  refine ⟨h.1, ?_⟩
  rcases h.2 with hn | ⟨g, cap, cur, hv, hb, hg, r⟩
  · exact .inl hn
  · exact .inr ⟨g, cap, cur, hv, hb, by rw [k.block g (Array.getElem?_eq_some_iff.1 hg).1]; exact hg, r⟩
theorem spanOf_nil (w : World) : Calls Try.prog 49 #[.slice none 0 0] w fun e w' => e = .returned (.agg #[.int .i64 (zeroV).lo, .int .i64 (zeroV).hi, .bool (zeroV).live, .int .i64 (zeroV).al]) ∧ Below w.heap.size w w' := by
  go_enter Try.func49, Try.ntmps49
  go_wp2
  exact bodyPost_ret (v := .agg #[.int .i64 0, .int .i64 0, .bool false, .int .i64 0]) (by simp [results, Try.results49, go_sem]) rfl ⟨rfl, (Below.refl _ _).alloc (Nat.le_refl _) _⟩
theorem neg_part (bl bh : Int) (hbl : In bl) (hle : bl ≤ bh) (h : bl < 0) : meetL bl bh (-9223372036854775808) (-1) = bl ∧ meetH bl bh (-9223372036854775808) (-1) = min bh (-1) ∧ meetB bl bh (-9223372036854775808) (-1) = true := by
  unfold In at hbl
  have e1 : mx bl (-9223372036854775808) = bl := by rw [mx_eq]; omega
  have e2 : mn bh (-1) = min bh (-1) := mn_eq _ _
  unfold meetL meetH meetB
  rw [e1, e2, if_pos (by omega), if_pos (by omega)]
  exact ⟨rfl, rfl, decide_eq_true (by omega)⟩
theorem neg_none (bl bh : Int) (hbl : In bl) (h : 0 ≤ bl) : meetB bl bh (-9223372036854775808) (-1) = false := by
  unfold In at hbl
  have e1 : mx bl (-9223372036854775808) = bl := by rw [mx_eq]; omega
  have e2 : mn bh (-1) = min bh (-1) := mn_eq _ _
  unfold meetB
  rw [e1, e2]
  exact decide_eq_false (by omega)
theorem pos_part (bl bh : Int) (hbh : In bh) (hle : bl ≤ bh) (h : 0 < bh) : meetL bl bh 1 9223372036854775807 = max bl 1 ∧ meetH bl bh 1 9223372036854775807 = bh ∧ meetB bl bh 1 9223372036854775807 = true := by
  unfold In at hbh
  have e1 : mn bh 9223372036854775807 = bh := by rw [mn_eq]; omega
  have e2 : mx bl 1 = max bl 1 := mx_eq _ _
  unfold meetL meetH meetB
  rw [e1, e2, if_pos (by omega), if_pos (by omega)]
  exact ⟨rfl, rfl, decide_eq_true (by omega)⟩
theorem pos_none (bl bh : Int) (hbh : In bh) (h : bh ≤ 0) : meetB bl bh 1 9223372036854775807 = false := by
  unfold In at hbh
  have e1 : mn bh 9223372036854775807 = bh := by rw [mn_eq]; omega
  have e2 : mx bl 1 = max bl 1 := mx_eq _ _
  unfold meetB
  rw [e1, e2]
  exact decide_eq_false (by omega)
theorem cell_alloc_lt {w : World} {b : Nat} (h : b < w.heap.size) (o : Obj) (k : Nat) : (w.alloc o).cell? ⟨b, k, none⟩ = w.cell? ⟨b, k, none⟩ :=
  ((Below.refl _ _).alloc (Nat.le_refl _) o).cell (p := ⟨b, k, none⟩) h
theorem alloc_size_le {b : Nat} {w : World} (h : b ≤ w.heap.size) (o : Obj) : b ≤ (w.alloc o).heap.size := by simp; omega
theorem nil_cells (w : World) (base : Nat) : w.ownsRow base 77 2 (.slice none 0 0) ([] : List Int).length (cellsC []) := World.ownsRow_nil _ _ _ _

/-- What the last statement reads: the alarms so far, and the divisor. -/
@[reducible] def SQ (w0 : World) (v b : Nat) (al l h : Int) (w : World) : Prop :=
  w.cell? ⟨v, 3, none⟩ = some (.int .i64 al) ∧ w.cell? ⟨b, 0, none⟩ = some (.int .i64 l) ∧ w.cell? ⟨b, 1, none⟩ = some (.int .i64 h) ∧ Below w0.heap.size w0 w
theorem undrewB {B : Nat} {w w' : World} (h : Below B w.drew w') : Below B w w' := ⟨h.os, h.tape, h.output, h.size, h.block⟩
theorem SQ.drew {w0 w : World} {v b : Nat} {al l h : Int} (k : SQ w0 v b al l h w) : SQ w0 v b al l h w.drew := ⟨k.1, k.2.1, k.2.2.1, k.2.2.2.drew⟩

set_option maxHeartbeats 2000000 in
theorem quo11 (al ah bl bh : Int) (w : World) (hal : In al) (hah : In ah) (hbl : In bl) (hbh : In bh) (h1 : al ≤ ah) (h2 : bl ≤ bh) (hn : bl < 0) (hp : 0 < bh) : Calls Try.prog 29 #[.agg #[.int .i64 al, .int .i64 ah], .agg #[.int .i64 bl, .int .i64 bh]] w fun e w' => e = .returned (.agg #[.int .i64 (quoV al ah bl bh).lo, .int .i64 (quoV al ah bl bh).hi, .bool (quoV al ah bl bh).live, .int .i64 (quoV al ah bl bh).al]) ∧ Below w.heap.size w w' := by
  obtain ⟨V, hV⟩ : ∃ V, V = quoV al ah bl bh := ⟨_, rfl⟩
  rw [← hV]
  obtain ⟨U, hU⟩ : ∃ U, U = spanL [al.tdiv bl, al.tdiv (min bh (-1)), ah.tdiv bl, ah.tdiv (min bh (-1)), al.tdiv (max bl 1), al.tdiv bh, ah.tdiv (max bl 1), ah.tdiv bh] := ⟨_, rfl⟩
  have eq0 : quoL al ah bl bh = [al.tdiv bl, al.tdiv (min bh (-1)), ah.tdiv bl, ah.tdiv (min bh (-1)), al.tdiv (max bl 1), al.tdiv bh, ah.tdiv (max bl 1), ah.tdiv bh] := by unfold quoL; rw [if_pos (by omega), if_pos (by omega)]; rfl
  have eV : V = { U with al := bits .or .i64 U.al (dvA bl bh) } := by rw [hV, hU]; unfold quoV; rw [if_pos ⟨h1, h2⟩, eq0]
  have v1 : U.lo = V.lo := by rw [eV]
  have v2 : U.hi = V.hi := by rw [eV]
  have v3 : U.live = V.live := by rw [eV]
  have v4 : bits .or .i64 U.al (dvA bl bh) = V.al := by rw [eV]
  have HU := hide hU
  have HV := hide (And.intro v1 (And.intro v2 (And.intro v3 v4)))
  clear hV hU eq0 eV v1 v2 v3 v4
  have e1 : bothB al ah bl bh = true := decide_eq_true ⟨h1, h2⟩
  have HI : Hid (In al ∧ In ah ∧ In bl ∧ In bh) := ⟨hal, hah, hbl, hbh⟩
  have HO : Hid (al ≤ ah ∧ bl ≤ bh) := ⟨h1, h2⟩
  have HN := hide hn
  have HP := hide hp
  clear h1 h2 hal hah hbl hbh hn hp
  go_enter Try.func29, Try.ntmps29
  go_wp2_with fail
  refine (bothOk_c _ _ _ _ _).mono ?_
  rintro e w1 ⟨rfl, hb1⟩
  have B1 := hb1.mono (show w.heap.size + 3 ≤ _ by simp)
  clear hb1
  obtain ⟨hc1, hf1⟩ := bcellB B1
  have HB1 := hide B1
  clear B1
  go_wp2_with fail
  refine (IvMeet_c _ _ _ _ _).mono ?_
  rintro e w2 ⟨rfl, hb2⟩
  have B2 := (unhide HB1).trans (hb2.mono (by have := (unhide HB1).size; simp at this ⊢; omega))
  clear hb2 hc1 hf1 HB1
  obtain ⟨hc2, hf2⟩ := bcellB B2
  have HB2 := hide B2
  clear B2
  rw [(neg_part bl bh HI.out.2.2.1 HO.out.2 (unhide HN)).1, (neg_part bl bh HI.out.2.2.1 HO.out.2 (unhide HN)).2.1, (neg_part bl bh HI.out.2.2.1 HO.out.2 (unhide HN)).2.2]
  have sz2 : w.heap.size + 3 ≤ w2.heap.size := by have := (unhide HB2).size; simp at this; omega
  have ca0 := fun o k => cell_alloc_lt (w := w2) (b := w.heap.size) (by omega) o k
  have ca1 := fun o k => cell_alloc_lt (w := w2) (b := w.heap.size + 1) (by omega) o k
  go_wp2_with fail
  refine (wc3 _ [] al ah bl (min bh (-1)) w2.heap.size _ (nil_cells _ _) (by decide) (alloc_size_le (Nat.le_refl _) _) HI.out.1 HI.out.2.1 HI.out.2.2.1 (by have := HI.out.2.2.2; unfold In at *; omega) (by have := unhide HN; omega) (by omega)).mono ?_
  rintro e w3 ⟨v1, rfl, hown1, hb3⟩
  have B3 := ((unhide HB2).alloc sz2 _).trans (hb3.mono (by omega))
  have sz3 : w2.heap.size ≤ w3.heap.size := by have := hb3.size; simp at this; omega
  clear hb3 hc2 hf2 HB2
  obtain ⟨hc3, hf3⟩ := bcellB B3
  have HB3 := hide B3
  clear B3
  go_wp2_with fail
  refine (IvMeet_c _ _ _ _ _).mono ?_
  rintro e w4 ⟨rfl, hb4⟩
  have hown2 := own_below hown1 hb4
  clear hown1
  have sz4 : w2.heap.size ≤ w4.heap.size := by have := hb4.size; omega
  have B4 := (unhide HB3).trans (hb4.mono (by have := (unhide HB3).size; simp at this ⊢; omega))
  clear hb4 hc3 hf3 HB3
  obtain ⟨hc4, hf4⟩ := bcellB B4
  have HB4 := hide B4
  clear B4
  clear ca0 ca1
  have ca0 := fun o k => cell_alloc_lt (w := w4) (b := w.heap.size) (by omega) o k
  have ca1 := fun o k => cell_alloc_lt (w := w4) (b := w.heap.size + 1) (by omega) o k
  rw [(pos_part bl bh HI.out.2.2.2 HO.out.2 (unhide HP)).1, (pos_part bl bh HI.out.2.2.2 HO.out.2 (unhide HP)).2.1, (pos_part bl bh HI.out.2.2.2 HO.out.2 (unhide HP)).2.2]
  go_wp2_with fail
  refine (wc3 _ [al.tdiv bl, al.tdiv (min bh (-1)), ah.tdiv bl, ah.tdiv (min bh (-1))] al ah (max bl 1) bh w2.heap.size _ (hown2.alloc _) (by simp) (alloc_size_le sz4 _) HI.out.1 HI.out.2.1 (by have := HI.out.2.2.1; unfold In at *; omega) HI.out.2.2.2 (by omega) (by have := unhide HP; omega)).mono ?_
  rintro e w5 ⟨v5, rfl, hown5, hb5⟩
  have B5 := ((unhide HB4).alloc (by omega) _).trans (hb5.mono (by omega))
  clear hb5 hc4 hf4 HB4
  have sz5 : w.heap.size + 3 ≤ w5.heap.size := by have := B5.size; simp at this; omega
  have HB5 := hide B5
  clear B5 ca0 ca1
  go_wp2_with fail
  refine (spanOf_c _ (al.tdiv bl) [al.tdiv (min bh (-1)), ah.tdiv bl, ah.tdiv (min bh (-1)), al.tdiv (max bl 1), al.tdiv bh, ah.tdiv (max bl 1), ah.tdiv bh] w2.heap.size _ hown5 (by simp)).mono ?_
  rintro e w6 ⟨rfl, hb6⟩
  clear hown5
  rw [← unhide HU]
  have B6 := (unhide HB5).trans (hb6.mono sz5)
  clear hb6 HB5
  have sz6 : w.heap.size + 3 ≤ w6.heap.size := by have := B6.size; simp at this; omega
  have HB6 := hide B6
  clear B6
  go_wp2_with fail
  have B7 := (unhide HB6).alloc sz6 (Obj.cells #[.int .i64 U.lo, .int .i64 U.hi, .bool U.live, .int .i64 U.al] 30)
  have hnew := heap_alloc_new w6 (Obj.cells #[.int .i64 U.lo, .int .i64 U.hi, .bool U.live, .int .i64 U.al] 30)
  have hsz7 : (w6.alloc (Obj.cells #[.int .i64 U.lo, .int .i64 U.hi, .bool U.live, .int .i64 U.al] 30)).heap.size = w6.heap.size + 1 := by simp
  generalize w6.alloc (Obj.cells #[.int .i64 U.lo, .int .i64 U.hi, .bool U.live, .int .i64 U.al] 30) = w7 at B7 hnew hsz7 ⊢
  have hs7 : SQ w7 w6.heap.size (w.heap.size + 1) U.al bl bh w7 := by
    refine ⟨cell_of_block hnew, ?_, ?_, Below.refl _ _⟩
    · rw [B7.cell (p := ⟨w.heap.size + 1, 0, none⟩) (by show w.heap.size + 1 < w.heap.size + 3; omega)]; simp [go_sem]
    · rw [B7.cell (p := ⟨w.heap.size + 1, 1, none⟩) (by show w.heap.size + 1 < w.heap.size + 3; omega)]; simp [go_sem]
  have lt7 : w6.heap.size < w7.heap.size ∧ w.heap.size + 1 < w7.heap.size := by omega
  have q0 := hs7.1
  have q1 := hs7.2.1
  have q2 := hs7.2.2.1
  have f7 : w7.frozen? ⟨w6.heap.size, 3, none⟩ = false := frozen_of_block hnew
  have HB7 := hide B7
  have HNEW := hide hnew
  clear B7 hnew HB6 hs7
  go_cut [40] (fun _ wc => ∃ w8, Below w7.heap.size w7 w8 ∧ wc = w8.setCell ⟨w6.heap.size, 3, none⟩ (.int .i64 (bits .or .i64 U.al (dvA bl bh))))
  case first =>
    go_region_with (go_at_call 50; refine (divAlarm_c _ _ _).mono ?_; rintro e w8 ⟨rfl, hb8⟩; have c8 : w8.cell? ⟨w6.heap.size, 3, none⟩ = some (.int .i64 U.al) := (hb8.cell (by exact lt7.1)).trans q0; have f8 : w8.frozen? ⟨w6.heap.size, 3, none⟩ = false := (hb8.frozen (by exact lt7.1)).trans f7)
    all_goals (go_wp2_with fail; go_meet)
    all_goals exact ⟨w8, undrewB hb8, rfl⟩
  case rest =>
  obtain ⟨w8, hb8, rfl⟩ := hcut
  have hn8 : w8.heap[w6.heap.size]? = some (Obj.cells #[.int .i64 U.lo, .int .i64 U.hi, .bool U.live, .int .i64 U.al] 30) := (hb8.block _ lt7.1).trans (unhide HNEW)
  have r0 : w8.cell? ⟨w6.heap.size, 0, none⟩ = some (.int .i64 U.lo) := cell_of_block hn8
  have r1 : w8.cell? ⟨w6.heap.size, 1, none⟩ = some (.int .i64 U.hi) := cell_of_block hn8
  have r2 : w8.cell? ⟨w6.heap.size, 2, none⟩ = some (.bool U.live) := cell_of_block hn8
  have r3 : w8.cell? ⟨w6.heap.size, 3, none⟩ = some (.int .i64 U.al) := cell_of_block hn8
  have B8 := (unhide HB7).trans (hb8.mono (by omega))
  obtain ⟨hc8, hf8⟩ := bcellB B8
  have K8 : Hid (Below w.heap.size w w8) := ((((Below.refl _ _).alloc (Nat.le_refl _) _).alloc (by simp) _).alloc (by simp; omega) _).trans (B8.mono (by omega))
  have ne8 : ¬ w.heap.size + 1 + 1 = w6.heap.size := by omega
  have ne8' : ¬ w6.heap.size = w.heap.size + 1 + 1 := by omega
  clear B8 HB7 HNEW hn8 hb8 q0 q1 q2 f7
  rw [(unhide HV).2.2.2]
  rw [(unhide HV).1] at r0
  rw [(unhide HV).2.1] at r1
  rw [(unhide HV).2.2.1] at r2
  go_wp2
  exact bodyPost_ret (v := .agg #[.int .i64 (V).lo, .int .i64 (V).hi, .bool (V).live, .int .i64 (V).al]) (by simp [results, Try.results29, go_sem, hc8, ne8, ne8']) rfl ⟨rfl, ((((K8.out.setCell (by simp; omega) _).setCell (by simp; omega) _).setCell (by simp; omega) _).setCell (by simp; omega) _).setCell (by simp; omega) _⟩

set_option maxHeartbeats 2000000 in
theorem quo10 (al ah bl bh : Int) (w : World) (hal : In al) (hah : In ah) (hbl : In bl) (hbh : In bh) (h1 : al ≤ ah) (h2 : bl ≤ bh) (hn : bl < 0) (hp : bh ≤ 0) : Calls Try.prog 29 #[.agg #[.int .i64 al, .int .i64 ah], .agg #[.int .i64 bl, .int .i64 bh]] w fun e w' => e = .returned (.agg #[.int .i64 (quoV al ah bl bh).lo, .int .i64 (quoV al ah bl bh).hi, .bool (quoV al ah bl bh).live, .int .i64 (quoV al ah bl bh).al]) ∧ Below w.heap.size w w' := by
  obtain ⟨V, hV⟩ : ∃ V, V = quoV al ah bl bh := ⟨_, rfl⟩
  rw [← hV]
  obtain ⟨U, hU⟩ : ∃ U, U = spanL [al.tdiv bl, al.tdiv (min bh (-1)), ah.tdiv bl, ah.tdiv (min bh (-1))] := ⟨_, rfl⟩
  have eq0 : quoL al ah bl bh = [al.tdiv bl, al.tdiv (min bh (-1)), ah.tdiv bl, ah.tdiv (min bh (-1))] := by unfold quoL; rw [if_pos (by omega), if_neg (by omega)]; rfl
  have eV : V = { U with al := bits .or .i64 U.al (dvA bl bh) } := by rw [hV, hU]; unfold quoV; rw [if_pos ⟨h1, h2⟩, eq0]
  have v1 : U.lo = V.lo := by rw [eV]
  have v2 : U.hi = V.hi := by rw [eV]
  have v3 : U.live = V.live := by rw [eV]
  have v4 : bits .or .i64 U.al (dvA bl bh) = V.al := by rw [eV]
  have HU := hide hU
  have HV := hide (And.intro v1 (And.intro v2 (And.intro v3 v4)))
  clear hV hU eq0 eV v1 v2 v3 v4
  have e1 : bothB al ah bl bh = true := decide_eq_true ⟨h1, h2⟩
  have HI : Hid (In al ∧ In ah ∧ In bl ∧ In bh) := ⟨hal, hah, hbl, hbh⟩
  have HO : Hid (al ≤ ah ∧ bl ≤ bh) := ⟨h1, h2⟩
  have HN := hide hn
  have HP := hide hp
  clear h1 h2 hal hah hbl hbh hn hp
  go_enter Try.func29, Try.ntmps29
  go_wp2_with fail
  refine (bothOk_c _ _ _ _ _).mono ?_
  rintro e w1 ⟨rfl, hb1⟩
  have B1 := hb1.mono (show w.heap.size + 3 ≤ _ by simp)
  clear hb1
  obtain ⟨hc1, hf1⟩ := bcellB B1
  have HB1 := hide B1
  clear B1
  go_wp2_with fail
  refine (IvMeet_c _ _ _ _ _).mono ?_
  rintro e w2 ⟨rfl, hb2⟩
  have B2 := (unhide HB1).trans (hb2.mono (by have := (unhide HB1).size; simp at this ⊢; omega))
  clear hb2 hc1 hf1 HB1
  obtain ⟨hc2, hf2⟩ := bcellB B2
  have HB2 := hide B2
  clear B2
  rw [(neg_part bl bh HI.out.2.2.1 HO.out.2 (unhide HN)).1, (neg_part bl bh HI.out.2.2.1 HO.out.2 (unhide HN)).2.1, (neg_part bl bh HI.out.2.2.1 HO.out.2 (unhide HN)).2.2]
  have sz2 : w.heap.size + 3 ≤ w2.heap.size := by have := (unhide HB2).size; simp at this; omega
  have ca0 := fun o k => cell_alloc_lt (w := w2) (b := w.heap.size) (by omega) o k
  have ca1 := fun o k => cell_alloc_lt (w := w2) (b := w.heap.size + 1) (by omega) o k
  go_wp2_with fail
  refine (wc3 _ [] al ah bl (min bh (-1)) w2.heap.size _ (nil_cells _ _) (by decide) (alloc_size_le (Nat.le_refl _) _) HI.out.1 HI.out.2.1 HI.out.2.2.1 (by have := HI.out.2.2.2; unfold In at *; omega) (by have := unhide HN; omega) (by omega)).mono ?_
  rintro e w3 ⟨v1, rfl, hown1, hb3⟩
  have B3 := ((unhide HB2).alloc sz2 _).trans (hb3.mono (by omega))
  have sz3 : w2.heap.size ≤ w3.heap.size := by have := hb3.size; simp at this; omega
  clear hb3 hc2 hf2 HB2
  obtain ⟨hc3, hf3⟩ := bcellB B3
  have HB3 := hide B3
  clear B3
  go_wp2_with fail
  refine (IvMeet_c _ _ _ _ _).mono ?_
  rintro e w4 ⟨rfl, hb4⟩
  have hown2 := own_below hown1 hb4
  clear hown1
  have sz4 : w2.heap.size ≤ w4.heap.size := by have := hb4.size; omega
  have B4 := (unhide HB3).trans (hb4.mono (by have := (unhide HB3).size; simp at this ⊢; omega))
  clear hb4 hc3 hf3 HB3
  obtain ⟨hc4, hf4⟩ := bcellB B4
  have HB4 := hide B4
  clear B4
  clear ca0 ca1
  have ca0 := fun o k => cell_alloc_lt (w := w4) (b := w.heap.size) (by omega) o k
  have ca1 := fun o k => cell_alloc_lt (w := w4) (b := w.heap.size + 1) (by omega) o k
  rw [pos_none bl bh HI.out.2.2.2 (unhide HP)]
  generalize meetL bl bh 1 9223372036854775807 = j3
  generalize meetH bl bh 1 9223372036854775807 = j4
  go_wp2_with fail
  generalize hw5 : w4.alloc (Obj.cells #[.int .i64 j3, .int .i64 j4] 25) = w5
  have hb5 : Below w4.heap.size w4 w5 := by rw [← hw5]; exact (Below.refl _ _).alloc (Nat.le_refl _) _
  clear hw5
  have B5 := (unhide HB4).trans (hb5.mono (by omega))
  have hown5 := own_below hown2 hb5
  clear hown2
  clear hb5 hc4 hf4 HB4
  have sz5 : w.heap.size + 3 ≤ w5.heap.size := by have := B5.size; simp at this; omega
  have HB5 := hide B5
  clear B5 ca0 ca1
  refine (spanOf_c _ (al.tdiv bl) [al.tdiv (min bh (-1)), ah.tdiv bl, ah.tdiv (min bh (-1))] w2.heap.size _ hown5 (by simp)).mono ?_
  rintro e w6 ⟨rfl, hb6⟩
  clear hown5
  rw [← unhide HU]
  have B6 := (unhide HB5).trans (hb6.mono sz5)
  clear hb6 HB5
  have sz6 : w.heap.size + 3 ≤ w6.heap.size := by have := B6.size; simp at this; omega
  have HB6 := hide B6
  clear B6
  go_wp2_with fail
  have B7 := (unhide HB6).alloc sz6 (Obj.cells #[.int .i64 U.lo, .int .i64 U.hi, .bool U.live, .int .i64 U.al] 30)
  have hnew := heap_alloc_new w6 (Obj.cells #[.int .i64 U.lo, .int .i64 U.hi, .bool U.live, .int .i64 U.al] 30)
  have hsz7 : (w6.alloc (Obj.cells #[.int .i64 U.lo, .int .i64 U.hi, .bool U.live, .int .i64 U.al] 30)).heap.size = w6.heap.size + 1 := by simp
  generalize w6.alloc (Obj.cells #[.int .i64 U.lo, .int .i64 U.hi, .bool U.live, .int .i64 U.al] 30) = w7 at B7 hnew hsz7 ⊢
  have hs7 : SQ w7 w6.heap.size (w.heap.size + 1) U.al bl bh w7 := by
    refine ⟨cell_of_block hnew, ?_, ?_, Below.refl _ _⟩
    · rw [B7.cell (p := ⟨w.heap.size + 1, 0, none⟩) (by show w.heap.size + 1 < w.heap.size + 3; omega)]; simp [go_sem]
    · rw [B7.cell (p := ⟨w.heap.size + 1, 1, none⟩) (by show w.heap.size + 1 < w.heap.size + 3; omega)]; simp [go_sem]
  have lt7 : w6.heap.size < w7.heap.size ∧ w.heap.size + 1 < w7.heap.size := by omega
  have q0 := hs7.1
  have q1 := hs7.2.1
  have q2 := hs7.2.2.1
  have f7 : w7.frozen? ⟨w6.heap.size, 3, none⟩ = false := frozen_of_block hnew
  have HB7 := hide B7
  have HNEW := hide hnew
  clear B7 hnew HB6 hs7
  go_cut [40] (fun _ wc => ∃ w8, Below w7.heap.size w7 w8 ∧ wc = w8.setCell ⟨w6.heap.size, 3, none⟩ (.int .i64 (bits .or .i64 U.al (dvA bl bh))))
  case first =>
    go_region_with (go_at_call 50; refine (divAlarm_c _ _ _).mono ?_; rintro e w8 ⟨rfl, hb8⟩; have c8 : w8.cell? ⟨w6.heap.size, 3, none⟩ = some (.int .i64 U.al) := (hb8.cell (by exact lt7.1)).trans q0; have f8 : w8.frozen? ⟨w6.heap.size, 3, none⟩ = false := (hb8.frozen (by exact lt7.1)).trans f7)
    all_goals (go_wp2_with fail; go_meet)
    all_goals exact ⟨w8, undrewB hb8, rfl⟩
  case rest =>
  obtain ⟨w8, hb8, rfl⟩ := hcut
  have hn8 : w8.heap[w6.heap.size]? = some (Obj.cells #[.int .i64 U.lo, .int .i64 U.hi, .bool U.live, .int .i64 U.al] 30) := (hb8.block _ lt7.1).trans (unhide HNEW)
  have r0 : w8.cell? ⟨w6.heap.size, 0, none⟩ = some (.int .i64 U.lo) := cell_of_block hn8
  have r1 : w8.cell? ⟨w6.heap.size, 1, none⟩ = some (.int .i64 U.hi) := cell_of_block hn8
  have r2 : w8.cell? ⟨w6.heap.size, 2, none⟩ = some (.bool U.live) := cell_of_block hn8
  have r3 : w8.cell? ⟨w6.heap.size, 3, none⟩ = some (.int .i64 U.al) := cell_of_block hn8
  have B8 := (unhide HB7).trans (hb8.mono (by omega))
  obtain ⟨hc8, hf8⟩ := bcellB B8
  have K8 : Hid (Below w.heap.size w w8) := ((((Below.refl _ _).alloc (Nat.le_refl _) _).alloc (by simp) _).alloc (by simp; omega) _).trans (B8.mono (by omega))
  have ne8 : ¬ w.heap.size + 1 + 1 = w6.heap.size := by omega
  have ne8' : ¬ w6.heap.size = w.heap.size + 1 + 1 := by omega
  clear B8 HB7 HNEW hn8 hb8 q0 q1 q2 f7
  rw [(unhide HV).2.2.2]
  rw [(unhide HV).1] at r0
  rw [(unhide HV).2.1] at r1
  rw [(unhide HV).2.2.1] at r2
  go_wp2
  exact bodyPost_ret (v := .agg #[.int .i64 (V).lo, .int .i64 (V).hi, .bool (V).live, .int .i64 (V).al]) (by simp [results, Try.results29, go_sem, hc8, ne8, ne8']) rfl ⟨rfl, ((((K8.out.setCell (by simp; omega) _).setCell (by simp; omega) _).setCell (by simp; omega) _).setCell (by simp; omega) _).setCell (by simp; omega) _⟩

set_option maxHeartbeats 2000000 in
theorem quo01 (al ah bl bh : Int) (w : World) (hal : In al) (hah : In ah) (hbl : In bl) (hbh : In bh) (h1 : al ≤ ah) (h2 : bl ≤ bh) (hn : 0 ≤ bl) (hp : 0 < bh) : Calls Try.prog 29 #[.agg #[.int .i64 al, .int .i64 ah], .agg #[.int .i64 bl, .int .i64 bh]] w fun e w' => e = .returned (.agg #[.int .i64 (quoV al ah bl bh).lo, .int .i64 (quoV al ah bl bh).hi, .bool (quoV al ah bl bh).live, .int .i64 (quoV al ah bl bh).al]) ∧ Below w.heap.size w w' := by
  obtain ⟨V, hV⟩ : ∃ V, V = quoV al ah bl bh := ⟨_, rfl⟩
  rw [← hV]
  obtain ⟨U, hU⟩ : ∃ U, U = spanL [al.tdiv (max bl 1), al.tdiv bh, ah.tdiv (max bl 1), ah.tdiv bh] := ⟨_, rfl⟩
  have eq0 : quoL al ah bl bh = [al.tdiv (max bl 1), al.tdiv bh, ah.tdiv (max bl 1), ah.tdiv bh] := by unfold quoL; rw [if_neg (by omega), if_pos (by omega)]; rfl
  have eV : V = { U with al := bits .or .i64 U.al (dvA bl bh) } := by rw [hV, hU]; unfold quoV; rw [if_pos ⟨h1, h2⟩, eq0]
  have v1 : U.lo = V.lo := by rw [eV]
  have v2 : U.hi = V.hi := by rw [eV]
  have v3 : U.live = V.live := by rw [eV]
  have v4 : bits .or .i64 U.al (dvA bl bh) = V.al := by rw [eV]
  have HU := hide hU
  have HV := hide (And.intro v1 (And.intro v2 (And.intro v3 v4)))
  clear hV hU eq0 eV v1 v2 v3 v4
  have e1 : bothB al ah bl bh = true := decide_eq_true ⟨h1, h2⟩
  have HI : Hid (In al ∧ In ah ∧ In bl ∧ In bh) := ⟨hal, hah, hbl, hbh⟩
  have HO : Hid (al ≤ ah ∧ bl ≤ bh) := ⟨h1, h2⟩
  have HN := hide hn
  have HP := hide hp
  clear h1 h2 hal hah hbl hbh hn hp
  go_enter Try.func29, Try.ntmps29
  go_wp2_with fail
  refine (bothOk_c _ _ _ _ _).mono ?_
  rintro e w1 ⟨rfl, hb1⟩
  have B1 := hb1.mono (show w.heap.size + 3 ≤ _ by simp)
  clear hb1
  obtain ⟨hc1, hf1⟩ := bcellB B1
  have HB1 := hide B1
  clear B1
  go_wp2_with fail
  refine (IvMeet_c _ _ _ _ _).mono ?_
  rintro e w2 ⟨rfl, hb2⟩
  have B2 := (unhide HB1).trans (hb2.mono (by have := (unhide HB1).size; simp at this ⊢; omega))
  clear hb2 hc1 hf1 HB1
  obtain ⟨hc2, hf2⟩ := bcellB B2
  have HB2 := hide B2
  clear B2
  rw [neg_none bl bh HI.out.2.2.1 (unhide HN)]
  have sz2 : w.heap.size + 3 ≤ w2.heap.size := by have := (unhide HB2).size; simp at this; omega
  have ca0 := fun o k => cell_alloc_lt (w := w2) (b := w.heap.size) (by omega) o k
  have ca1 := fun o k => cell_alloc_lt (w := w2) (b := w.heap.size + 1) (by omega) o k
  generalize meetL bl bh (-9223372036854775808) (-1) = j1
  generalize meetH bl bh (-9223372036854775808) (-1) = j2
  go_wp2_with fail
  generalize hw3 : w2.alloc (Obj.cells #[.int .i64 j1, .int .i64 j2] 25) = w3
  have hb3 : Below w2.heap.size w2 w3 := by rw [← hw3]; exact (Below.refl _ _).alloc (Nat.le_refl _) _
  have sz3 : w2.heap.size ≤ w3.heap.size := by rw [← hw3]; simp
  clear hw3
  have B3 := (unhide HB2).trans (hb3.mono sz2)
  clear hb3 hc2 hf2 HB2
  obtain ⟨hc3, hf3⟩ := bcellB B3
  have HB3 := hide B3
  clear B3
  refine (IvMeet_c _ _ _ _ _).mono ?_
  rintro e w4 ⟨rfl, hb4⟩
  have sz4 : w2.heap.size ≤ w4.heap.size := by have := hb4.size; omega
  have B4 := (unhide HB3).trans (hb4.mono (by have := (unhide HB3).size; simp at this ⊢; omega))
  clear hb4 hc3 hf3 HB3
  obtain ⟨hc4, hf4⟩ := bcellB B4
  have HB4 := hide B4
  clear B4
  clear ca0 ca1
  have ca0 := fun o k => cell_alloc_lt (w := w4) (b := w.heap.size) (by omega) o k
  have ca1 := fun o k => cell_alloc_lt (w := w4) (b := w.heap.size + 1) (by omega) o k
  rw [(pos_part bl bh HI.out.2.2.2 HO.out.2 (unhide HP)).1, (pos_part bl bh HI.out.2.2.2 HO.out.2 (unhide HP)).2.1, (pos_part bl bh HI.out.2.2.2 HO.out.2 (unhide HP)).2.2]
  go_wp2_with fail
  refine (wc3 _ [] al ah (max bl 1) bh w2.heap.size _ (nil_cells _ _) (by simp) (alloc_size_le sz4 _) HI.out.1 HI.out.2.1 (by have := HI.out.2.2.1; unfold In at *; omega) HI.out.2.2.2 (by omega) (by have := unhide HP; omega)).mono ?_
  rintro e w5 ⟨v5, rfl, hown5, hb5⟩
  have B5 := ((unhide HB4).alloc (by omega) _).trans (hb5.mono (by omega))
  clear hb5 hc4 hf4 HB4
  have sz5 : w.heap.size + 3 ≤ w5.heap.size := by have := B5.size; simp at this; omega
  have HB5 := hide B5
  clear B5 ca0 ca1
  go_wp2_with fail
  refine (spanOf_c _ (al.tdiv (max bl 1)) [al.tdiv bh, ah.tdiv (max bl 1), ah.tdiv bh] w2.heap.size _ hown5 (by simp)).mono ?_
  rintro e w6 ⟨rfl, hb6⟩
  clear hown5
  rw [← unhide HU]
  have B6 := (unhide HB5).trans (hb6.mono sz5)
  clear hb6 HB5
  have sz6 : w.heap.size + 3 ≤ w6.heap.size := by have := B6.size; simp at this; omega
  have HB6 := hide B6
  clear B6
  go_wp2_with fail
  have B7 := (unhide HB6).alloc sz6 (Obj.cells #[.int .i64 U.lo, .int .i64 U.hi, .bool U.live, .int .i64 U.al] 30)
  have hnew := heap_alloc_new w6 (Obj.cells #[.int .i64 U.lo, .int .i64 U.hi, .bool U.live, .int .i64 U.al] 30)
  have hsz7 : (w6.alloc (Obj.cells #[.int .i64 U.lo, .int .i64 U.hi, .bool U.live, .int .i64 U.al] 30)).heap.size = w6.heap.size + 1 := by simp
  generalize w6.alloc (Obj.cells #[.int .i64 U.lo, .int .i64 U.hi, .bool U.live, .int .i64 U.al] 30) = w7 at B7 hnew hsz7 ⊢
  have hs7 : SQ w7 w6.heap.size (w.heap.size + 1) U.al bl bh w7 := by
    refine ⟨cell_of_block hnew, ?_, ?_, Below.refl _ _⟩
    · rw [B7.cell (p := ⟨w.heap.size + 1, 0, none⟩) (by show w.heap.size + 1 < w.heap.size + 3; omega)]; simp [go_sem]
    · rw [B7.cell (p := ⟨w.heap.size + 1, 1, none⟩) (by show w.heap.size + 1 < w.heap.size + 3; omega)]; simp [go_sem]
  have lt7 : w6.heap.size < w7.heap.size ∧ w.heap.size + 1 < w7.heap.size := by omega
  have q0 := hs7.1
  have q1 := hs7.2.1
  have q2 := hs7.2.2.1
  have f7 : w7.frozen? ⟨w6.heap.size, 3, none⟩ = false := frozen_of_block hnew
  have HB7 := hide B7
  have HNEW := hide hnew
  clear B7 hnew HB6 hs7
  go_cut [40] (fun _ wc => ∃ w8, Below w7.heap.size w7 w8 ∧ wc = w8.setCell ⟨w6.heap.size, 3, none⟩ (.int .i64 (bits .or .i64 U.al (dvA bl bh))))
  case first =>
    go_region_with (go_at_call 50; refine (divAlarm_c _ _ _).mono ?_; rintro e w8 ⟨rfl, hb8⟩; have c8 : w8.cell? ⟨w6.heap.size, 3, none⟩ = some (.int .i64 U.al) := (hb8.cell (by exact lt7.1)).trans q0; have f8 : w8.frozen? ⟨w6.heap.size, 3, none⟩ = false := (hb8.frozen (by exact lt7.1)).trans f7)
    all_goals (go_wp2_with fail; go_meet)
    all_goals exact ⟨w8, undrewB hb8, rfl⟩
  case rest =>
  obtain ⟨w8, hb8, rfl⟩ := hcut
  have hn8 : w8.heap[w6.heap.size]? = some (Obj.cells #[.int .i64 U.lo, .int .i64 U.hi, .bool U.live, .int .i64 U.al] 30) := (hb8.block _ lt7.1).trans (unhide HNEW)
  have r0 : w8.cell? ⟨w6.heap.size, 0, none⟩ = some (.int .i64 U.lo) := cell_of_block hn8
  have r1 : w8.cell? ⟨w6.heap.size, 1, none⟩ = some (.int .i64 U.hi) := cell_of_block hn8
  have r2 : w8.cell? ⟨w6.heap.size, 2, none⟩ = some (.bool U.live) := cell_of_block hn8
  have r3 : w8.cell? ⟨w6.heap.size, 3, none⟩ = some (.int .i64 U.al) := cell_of_block hn8
  have B8 := (unhide HB7).trans (hb8.mono (by omega))
  obtain ⟨hc8, hf8⟩ := bcellB B8
  have K8 : Hid (Below w.heap.size w w8) := ((((Below.refl _ _).alloc (Nat.le_refl _) _).alloc (by simp) _).alloc (by simp; omega) _).trans (B8.mono (by omega))
  have ne8 : ¬ w.heap.size + 1 + 1 = w6.heap.size := by omega
  have ne8' : ¬ w6.heap.size = w.heap.size + 1 + 1 := by omega
  clear B8 HB7 HNEW hn8 hb8 q0 q1 q2 f7
  rw [(unhide HV).2.2.2]
  rw [(unhide HV).1] at r0
  rw [(unhide HV).2.1] at r1
  rw [(unhide HV).2.2.1] at r2
  go_wp2
  exact bodyPost_ret (v := .agg #[.int .i64 (V).lo, .int .i64 (V).hi, .bool (V).live, .int .i64 (V).al]) (by simp [results, Try.results29, go_sem, hc8, ne8, ne8']) rfl ⟨rfl, ((((K8.out.setCell (by simp; omega) _).setCell (by simp; omega) _).setCell (by simp; omega) _).setCell (by simp; omega) _).setCell (by simp; omega) _⟩

set_option maxHeartbeats 2000000 in
theorem quo00 (al ah bl bh : Int) (w : World) (hal : In al) (hah : In ah) (hbl : In bl) (hbh : In bh) (h1 : al ≤ ah) (h2 : bl ≤ bh) (hn : 0 ≤ bl) (hp : bh ≤ 0) : Calls Try.prog 29 #[.agg #[.int .i64 al, .int .i64 ah], .agg #[.int .i64 bl, .int .i64 bh]] w fun e w' => e = .returned (.agg #[.int .i64 (quoV al ah bl bh).lo, .int .i64 (quoV al ah bl bh).hi, .bool (quoV al ah bl bh).live, .int .i64 (quoV al ah bl bh).al]) ∧ Below w.heap.size w w' := by
  obtain ⟨V, hV⟩ : ∃ V, V = quoV al ah bl bh := ⟨_, rfl⟩
  rw [← hV]
  obtain ⟨U, hU⟩ : ∃ U, U = spanL [] := ⟨_, rfl⟩
  have eq0 : quoL al ah bl bh = [] := by unfold quoL; rw [if_neg (by omega), if_neg (by omega)]; rfl
  have eV : V = { U with al := bits .or .i64 U.al (dvA bl bh) } := by rw [hV, hU]; unfold quoV; rw [if_pos ⟨h1, h2⟩, eq0]
  have v1 : U.lo = V.lo := by rw [eV]
  have v2 : U.hi = V.hi := by rw [eV]
  have v3 : U.live = V.live := by rw [eV]
  have v4 : bits .or .i64 U.al (dvA bl bh) = V.al := by rw [eV]
  have HU := hide hU
  have HV := hide (And.intro v1 (And.intro v2 (And.intro v3 v4)))
  clear hV hU eq0 eV v1 v2 v3 v4
  have e1 : bothB al ah bl bh = true := decide_eq_true ⟨h1, h2⟩
  have HI : Hid (In al ∧ In ah ∧ In bl ∧ In bh) := ⟨hal, hah, hbl, hbh⟩
  have HO : Hid (al ≤ ah ∧ bl ≤ bh) := ⟨h1, h2⟩
  have HN := hide hn
  have HP := hide hp
  clear h1 h2 hal hah hbl hbh hn hp
  go_enter Try.func29, Try.ntmps29
  go_wp2_with fail
  refine (bothOk_c _ _ _ _ _).mono ?_
  rintro e w1 ⟨rfl, hb1⟩
  have B1 := hb1.mono (show w.heap.size + 3 ≤ _ by simp)
  clear hb1
  obtain ⟨hc1, hf1⟩ := bcellB B1
  have HB1 := hide B1
  clear B1
  go_wp2_with fail
  refine (IvMeet_c _ _ _ _ _).mono ?_
  rintro e w2 ⟨rfl, hb2⟩
  have B2 := (unhide HB1).trans (hb2.mono (by have := (unhide HB1).size; simp at this ⊢; omega))
  clear hb2 hc1 hf1 HB1
  obtain ⟨hc2, hf2⟩ := bcellB B2
  have HB2 := hide B2
  clear B2
  rw [neg_none bl bh HI.out.2.2.1 (unhide HN)]
  have sz2 : w.heap.size + 3 ≤ w2.heap.size := by have := (unhide HB2).size; simp at this; omega
  have ca0 := fun o k => cell_alloc_lt (w := w2) (b := w.heap.size) (by omega) o k
  have ca1 := fun o k => cell_alloc_lt (w := w2) (b := w.heap.size + 1) (by omega) o k
  generalize meetL bl bh (-9223372036854775808) (-1) = j1
  generalize meetH bl bh (-9223372036854775808) (-1) = j2
  go_wp2_with fail
  generalize hw3 : w2.alloc (Obj.cells #[.int .i64 j1, .int .i64 j2] 25) = w3
  have hb3 : Below w2.heap.size w2 w3 := by rw [← hw3]; exact (Below.refl _ _).alloc (Nat.le_refl _) _
  have sz3 : w2.heap.size ≤ w3.heap.size := by rw [← hw3]; simp
  clear hw3
  have B3 := (unhide HB2).trans (hb3.mono sz2)
  clear hb3 hc2 hf2 HB2
  obtain ⟨hc3, hf3⟩ := bcellB B3
  have HB3 := hide B3
  clear B3
  refine (IvMeet_c _ _ _ _ _).mono ?_
  rintro e w4 ⟨rfl, hb4⟩
  have sz4 : w2.heap.size ≤ w4.heap.size := by have := hb4.size; omega
  have B4 := (unhide HB3).trans (hb4.mono (by have := (unhide HB3).size; simp at this ⊢; omega))
  clear hb4 hc3 hf3 HB3
  obtain ⟨hc4, hf4⟩ := bcellB B4
  have HB4 := hide B4
  clear B4
  clear ca0 ca1
  have ca0 := fun o k => cell_alloc_lt (w := w4) (b := w.heap.size) (by omega) o k
  have ca1 := fun o k => cell_alloc_lt (w := w4) (b := w.heap.size + 1) (by omega) o k
  rw [pos_none bl bh HI.out.2.2.2 (unhide HP)]
  generalize meetL bl bh 1 9223372036854775807 = j3
  generalize meetH bl bh 1 9223372036854775807 = j4
  go_wp2_with fail
  generalize hw5 : w4.alloc (Obj.cells #[.int .i64 j3, .int .i64 j4] 25) = w5
  have hb5 : Below w4.heap.size w4 w5 := by rw [← hw5]; exact (Below.refl _ _).alloc (Nat.le_refl _) _
  clear hw5
  have B5 := (unhide HB4).trans (hb5.mono (by omega))
  clear hb5 hc4 hf4 HB4
  have sz5 : w.heap.size + 3 ≤ w5.heap.size := by have := B5.size; simp at this; omega
  have HB5 := hide B5
  clear B5 ca0 ca1
  refine (spanOf_nil _).mono ?_
  rintro e w6 ⟨rfl, hb6⟩
  have HU' : Hid (zeroV = U) := (unhide HU).symm
  rw [unhide HU']
  have B6 := (unhide HB5).trans (hb6.mono sz5)
  clear hb6 HB5
  have sz6 : w.heap.size + 3 ≤ w6.heap.size := by have := B6.size; simp at this; omega
  have HB6 := hide B6
  clear B6
  go_wp2_with fail
  have B7 := (unhide HB6).alloc sz6 (Obj.cells #[.int .i64 U.lo, .int .i64 U.hi, .bool U.live, .int .i64 U.al] 30)
  have hnew := heap_alloc_new w6 (Obj.cells #[.int .i64 U.lo, .int .i64 U.hi, .bool U.live, .int .i64 U.al] 30)
  have hsz7 : (w6.alloc (Obj.cells #[.int .i64 U.lo, .int .i64 U.hi, .bool U.live, .int .i64 U.al] 30)).heap.size = w6.heap.size + 1 := by simp
  generalize w6.alloc (Obj.cells #[.int .i64 U.lo, .int .i64 U.hi, .bool U.live, .int .i64 U.al] 30) = w7 at B7 hnew hsz7 ⊢
  have hs7 : SQ w7 w6.heap.size (w.heap.size + 1) U.al bl bh w7 := by
    refine ⟨cell_of_block hnew, ?_, ?_, Below.refl _ _⟩
    · rw [B7.cell (p := ⟨w.heap.size + 1, 0, none⟩) (by show w.heap.size + 1 < w.heap.size + 3; omega)]; simp [go_sem]
    · rw [B7.cell (p := ⟨w.heap.size + 1, 1, none⟩) (by show w.heap.size + 1 < w.heap.size + 3; omega)]; simp [go_sem]
  have lt7 : w6.heap.size < w7.heap.size ∧ w.heap.size + 1 < w7.heap.size := by omega
  have q0 := hs7.1
  have q1 := hs7.2.1
  have q2 := hs7.2.2.1
  have f7 : w7.frozen? ⟨w6.heap.size, 3, none⟩ = false := frozen_of_block hnew
  have HB7 := hide B7
  have HNEW := hide hnew
  clear B7 hnew HB6 hs7
  go_cut [40] (fun _ wc => ∃ w8, Below w7.heap.size w7 w8 ∧ wc = w8.setCell ⟨w6.heap.size, 3, none⟩ (.int .i64 (bits .or .i64 U.al (dvA bl bh))))
  case first =>
    go_region_with (go_at_call 50; refine (divAlarm_c _ _ _).mono ?_; rintro e w8 ⟨rfl, hb8⟩; have c8 : w8.cell? ⟨w6.heap.size, 3, none⟩ = some (.int .i64 U.al) := (hb8.cell (by exact lt7.1)).trans q0; have f8 : w8.frozen? ⟨w6.heap.size, 3, none⟩ = false := (hb8.frozen (by exact lt7.1)).trans f7)
    all_goals (go_wp2_with fail; go_meet)
    all_goals exact ⟨w8, undrewB hb8, rfl⟩
  case rest =>
  obtain ⟨w8, hb8, rfl⟩ := hcut
  have hn8 : w8.heap[w6.heap.size]? = some (Obj.cells #[.int .i64 U.lo, .int .i64 U.hi, .bool U.live, .int .i64 U.al] 30) := (hb8.block _ lt7.1).trans (unhide HNEW)
  have r0 : w8.cell? ⟨w6.heap.size, 0, none⟩ = some (.int .i64 U.lo) := cell_of_block hn8
  have r1 : w8.cell? ⟨w6.heap.size, 1, none⟩ = some (.int .i64 U.hi) := cell_of_block hn8
  have r2 : w8.cell? ⟨w6.heap.size, 2, none⟩ = some (.bool U.live) := cell_of_block hn8
  have r3 : w8.cell? ⟨w6.heap.size, 3, none⟩ = some (.int .i64 U.al) := cell_of_block hn8
  have B8 := (unhide HB7).trans (hb8.mono (by omega))
  obtain ⟨hc8, hf8⟩ := bcellB B8
  have K8 : Hid (Below w.heap.size w w8) := ((((Below.refl _ _).alloc (Nat.le_refl _) _).alloc (by simp) _).alloc (by simp; omega) _).trans (B8.mono (by omega))
  have ne8 : ¬ w.heap.size + 1 + 1 = w6.heap.size := by omega
  have ne8' : ¬ w6.heap.size = w.heap.size + 1 + 1 := by omega
  clear B8 HB7 HNEW hn8 hb8 q0 q1 q2 f7
  rw [(unhide HV).2.2.2]
  rw [(unhide HV).1] at r0
  rw [(unhide HV).2.1] at r1
  rw [(unhide HV).2.2.1] at r2
  go_wp2
  exact bodyPost_ret (v := .agg #[.int .i64 (V).lo, .int .i64 (V).hi, .bool (V).live, .int .i64 (V).al]) (by simp [results, Try.results29, go_sem, hc8, ne8, ne8']) rfl ⟨rfl, ((((K8.out.setCell (by simp; omega) _).setCell (by simp; omega) _).setCell (by simp; omega) _).setCell (by simp; omega) _).setCell (by simp; omega) _⟩

theorem quoBad (al ah bl bh : Int) (w : World) (h1 : ¬ (al ≤ ah ∧ bl ≤ bh)) : Calls Try.prog 29 #[.agg #[.int .i64 al, .int .i64 ah], .agg #[.int .i64 bl, .int .i64 bh]] w fun e w' => e = .returned (.agg #[.int .i64 (quoV al ah bl bh).lo, .int .i64 (quoV al ah bl bh).hi, .bool (quoV al ah bl bh).live, .int .i64 (quoV al ah bl bh).al]) ∧ Below w.heap.size w w' := by
  have e1 : bothB al ah bl bh = false := decide_eq_false h1
  have e2 : Hid (quoV al ah bl bh = zeroV) := if_neg h1
  clear h1
  go_enter Try.func29, Try.ntmps29
  go_wp2_with fail
  refine (bothOk_c _ _ _ _ _).mono ?_
  rintro e w1 ⟨rfl, hb1⟩
  have B1 := hb1.mono (show w.heap.size + 3 ≤ _ by simp)
  clear hb1
  obtain ⟨hc1, hf1⟩ := bcellB B1
  have K1 : Hid (Below w.heap.size w w1) := ((((Below.refl _ _).alloc (Nat.le_refl _) _).alloc (by simp) _).alloc (by simp; omega) _).trans (B1.mono (by omega))
  clear B1
  go_wp2
  exact bodyPost_ret (v := .agg #[.int .i64 0, .int .i64 0, .bool false, .int .i64 0]) (by simp [results, Try.results29, go_sem, hc1]) rfl ⟨by rw [e2.out]; rfl, (((K1.out.setCell (by simp; omega) _).setCell (by simp; omega) _).setCell (by simp; omega) _).setCell (by simp; omega) _⟩
theorem IvQuo_c (al ah bl bh : Int) (hal : In al) (hah : In ah) (hbl : In bl) (hbh : In bh) (w : World) : Calls Try.prog 29 #[.agg #[.int .i64 al, .int .i64 ah], .agg #[.int .i64 bl, .int .i64 bh]] w fun e w' => e = .returned (.agg #[.int .i64 (quoV al ah bl bh).lo, .int .i64 (quoV al ah bl bh).hi, .bool (quoV al ah bl bh).live, .int .i64 (quoV al ah bl bh).al]) ∧ Below w.heap.size w w' := by
  by_cases h : al ≤ ah ∧ bl ≤ bh
  · by_cases hn : bl < 0 <;> by_cases hp : 0 < bh
    · exact quo11 al ah bl bh w hal hah hbl hbh h.1 h.2 hn hp
    · exact quo10 al ah bl bh w hal hah hbl hbh h.1 h.2 hn (by omega)
    · exact quo01 al ah bl bh w hal hah hbl hbh h.1 h.2 (by omega) hp
    · exact quo00 al ah bl bh w hal hah hbl hbh h.1 h.2 (by omega) (by omega)
  · exact quoBad al ah bl bh w h

end Go.Proofs.Ytfnedaidljppnaa
