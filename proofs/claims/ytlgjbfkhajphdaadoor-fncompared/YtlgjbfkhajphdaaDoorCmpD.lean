/- Comparisons of intervals: both IvCompare. -/
import Derived.Test.YtlgjbfkhajphdaaDoorCmpC
namespace Go.Proofs.YtlgjbfkhajphdaaDoor
open Go.RowKit Go.Iv
set_option linter.unusedSimpArgs false
set_option linter.unusedVariables false

/-- The answer's own block, still without anything, which may be written. -/
def Rz (b : Nat) (w : World) : Prop := w.cell? ⟨b, 0, none⟩ = some (.int .i64 0) ∧ w.cell? ⟨b, 1, none⟩ = some (.int .i64 0) ∧ w.frozen? ⟨b, 0, none⟩ = false ∧ w.frozen? ⟨b, 1, none⟩ = false ∧ b < w.heap.size
theorem Rz.call {b : Nat} {w w1 : World} (hb : Below w.heap.size w w1) (h : Rz b w) : Rz b w1 :=
  ⟨(hb.cell (by exact h.2.2.2.2)).trans h.1, (hb.cell (by exact h.2.2.2.2)).trans h.2.1, (hb.frozen (by exact h.2.2.2.2)).trans h.2.2.1, (hb.frozen (by exact h.2.2.2.2)).trans h.2.2.2.1, Nat.lt_of_lt_of_le h.2.2.2.2 hb.size⟩
theorem Rz.drew {b : Nat} {w : World} (h : Rz b w) : Rz b w.drew := h
theorem Rz.alloc {b : Nat} {w : World} (h : Rz b w) (o : Obj) : Rz b (w.alloc o) := h.call ((Below.refl _ _).alloc (Nat.le_refl _) o)

/-- Two pairs, and a number in the package's variable. -/
@[reducible] def S3 (w0 : World) (M B : Nat) (x0 y0 x1 y1 : Int) (k : Nat) (v : Int) (w : World) : Prop :=
  (w.cell? ⟨B, 0, none⟩ = some (.int .i64 x0) ∧ w.cell? ⟨B, 1, none⟩ = some (.int .i64 y0) ∧ w.cell? ⟨B + 1, 0, none⟩ = some (.int .i64 x1) ∧ w.cell? ⟨B + 1, 1, none⟩ = some (.int .i64 y1) ∧ Below M w0 w ∧ M ≤ w.heap.size ∧ B + 2 ≤ w.heap.size) ∧ w.cell? ⟨0, k, none⟩ = some (.int .i64 v)
theorem S3.drew {w0 w : World} {M B k : Nat} {x0 y0 x1 y1 v : Int} (h : S3 w0 M B x0 y0 x1 y1 k v w) : S3 w0 M B x0 y0 x1 y1 k v w.drew := ⟨S2.drew h.1, h.2⟩
theorem S3.call {w0 w w1 : World} {M B k : Nat} {x0 y0 x1 y1 v : Int} (hb : Below w.heap.size w w1) (h : S3 w0 M B x0 y0 x1 y1 k v w) : S3 w0 M B x0 y0 x1 y1 k v w1 :=
  ⟨S2.call hb h.1, (hb.cell (World.block_lt_of_cell? w _ h.2)).trans h.2⟩
theorem S3.alloc {w0 w : World} {M B k : Nat} {x0 y0 x1 y1 v : Int} (h : S3 w0 M B x0 y0 x1 y1 k v w) (o : Obj) : S3 w0 M B x0 y0 x1 y1 k v (w.alloc o) :=
  S3.call ((Below.refl _ _).alloc (Nat.le_refl _) o) h
theorem S3.set {w0 w : World} {M B b o k : Nat} {x0 y0 x1 y1 v : Int} (h : S3 w0 M B x0 y0 x1 y1 k v w) (hb : B + 2 ≤ b) (hm : M ≤ b) (x : Value) : S3 w0 M B x0 y0 x1 y1 k v (w.setCell ⟨b, o, none⟩ x) :=
  ⟨S2.set h.1 hb hm x, (((Below.refl b w).setCell (p := ⟨b, o, none⟩) (Nat.le_refl _) x).cell (p := ⟨0, k, none⟩) (by show 0 < b; omega)).trans h.2⟩
set_option maxHeartbeats 2000000 in
theorem sCmp_t (op al ah bl bh : Int) (c1 : 13 ≤ op ∧ op ≤ 18) (c2 : al ≤ ah) (c3 : bl ≤ bh) (w : World) : Calls Tryd.prog 8 #[.int .i64 op, .agg #[.int .i64 al, .int .i64 ah], .agg #[.int .i64 bl, .int .i64 bh]] w fun e w' => e = .returned (.agg #[.int .i64 (cmpLo op al ah bl bh), .int .i64 (cmpHi op al ah bl bh)]) ∧ Below w.heap.size w w' := by
  have d1 : cmpB op = true := decide_eq_true c1
  have d2 : okB al ah = true := decide_eq_true c2
  have d3 : okB bl bh = true := decide_eq_true c3
  have E : Hid (cmpLo op al ah bl bh = oneN (allB op al ah bl bh) ∧ cmpHi op al ah bl bh = 1 - oneN (allB (notN op) al ah bl bh)) := ⟨if_pos ⟨c1, c2, c3⟩, if_pos ⟨c1, c2, c3⟩⟩
  have q : wrap64 (1 - oneN (allB (notN op) al ah bl bh)) = 1 - oneN (allB (notN op) al ah bl bh) := w64 _ (by unfold oneN In; split <;> omega)
  have q' : IntKind.i64.wrap (1 - oneN (allB (notN op) al ah bl bh)) = 1 - oneN (allB (notN op) al ah bl bh) := by rw [IntKind.wrap_i64]; unfold oneN; split <;> rfl
  clear c2 c3
  go_enter Tryd.func8, Tryd.ntmps8
  go_wp2_with fail
  refine (l7Compares_c _ _).mono ?_
  rintro e w1 ⟨rfl, hb1⟩
  have B1 := hb1.mono (show w.heap.size + 3 ≤ _ by simp)
  clear hb1
  obtain ⟨hc1, hf1⟩ := bcellB B1
  have HB1 := hide B1
  clear B1
  go_wp2_with fail
  refine (sIvOk_c _ _ _).mono ?_
  rintro e w2 ⟨rfl, hb2⟩
  have B2 := (unhide HB1).trans (hb2.mono (by have := (unhide HB1).size; simp at this; omega))
  clear hb2 hc1 hf1 HB1
  obtain ⟨hc2, hf2⟩ := bcellB B2
  have HB2 := hide B2
  clear B2
  go_wp2_with fail
  refine (sIvOk_c _ _ _).mono ?_
  rintro e w3 ⟨rfl, hb3⟩
  have B3 := (unhide HB2).trans (hb3.mono (by have := (unhide HB2).size; simp at this; omega))
  clear hb3 hc2 hf2 HB2
  obtain ⟨hc3, hf3⟩ := bcellB B3
  have K : Hid (Below w.heap.size w w3) := ((((Below.refl _ _).alloc (Nat.le_refl _) _).alloc (by simp) _).alloc (by simp; omega) _).trans (B3.mono (by omega))
  have z : Hid (w.heap.size + 3 ≤ w3.heap.size) := by have := B3.size; simp at this; unfold Hid; omega
  clear B3
  have hS : S2 w w.heap.size w.heap.size al ah bl bh w3 := ⟨(hc3 w.heap.size 0 (by omega)).trans (by simp [go_sem]), (hc3 w.heap.size 1 (by omega)).trans (by simp [go_sem]), (hc3 (w.heap.size + 1) 0 (by omega)).trans (by simp [go_sem]), (hc3 (w.heap.size + 1) 1 (by omega)).trans (by simp [go_sem]), K.out, K.out.size, by have := z.out; omega⟩
  have hR : Rz (w.heap.size + 2) w3 := ⟨(hc3 (w.heap.size + 2) 0 (by omega)).trans (by simp [go_sem]), (hc3 (w.heap.size + 2) 1 (by omega)).trans (by simp [go_sem]), (hf3 (w.heap.size + 2) 0 (by omega)).trans (by simp [go_sem]), (hf3 (w.heap.size + 2) 1 (by omega)).trans (by simp [go_sem]), by have := z.out; omega⟩
  clear hc3 hf3
  have hR' := hR.drew
  go_wp2_with fail
  go_region_held3 (S2 w w.heap.size w.heap.size al ah bl bh)
    (first | exact S2.drew (by assumption) | exact S2.call hb (by assumption) | exact S2.set (S2.set (by assumption) (by omega) (by omega) _) (by omega) (by omega) _)
    (first
      | (go_at_call 24; refine (l7All_c _ _ _ _ _ (by first | exact c1 | exact not_in c1) _).mono ?_; rintro e w1 ⟨rfl, hb⟩; have hR := Rz.call hb (by assumption); have r0 := hR.1; have r1 := hR.2.1; have r2 := hR.2.2.1; have r3 := hR.2.2.2.1)
      | (go_at_call 23; refine (l5One_c _ _).mono ?_; rintro e w1 ⟨rfl, hb⟩; have hR := Rz.call hb (by assumption); have r0 := hR.1; have r1 := hR.2.1; have r2 := hR.2.2.1; have r3 := hR.2.2.2.1)
      | (go_at_call 25; refine (l7Not_c _ c1 _).mono ?_; rintro e w1 ⟨rfl, hb⟩; have hR := Rz.call hb (by assumption); have r0 := hR.1; have r1 := hR.2.1; have r2 := hR.2.2.1; have r3 := hR.2.2.2.1))
  rename_i hH
  go_wp2
  exact bodyPost_ret (v := .agg #[.int .i64 (oneN (allB op al ah bl bh)), .int .i64 (1 - oneN (allB (notN op) al ah bl bh))]) (by simp [results, Tryd.results8, go_sem, r0, r1]) rfl ⟨by rw [E.out.1, E.out.2], hH.2.2.2.2.1⟩
theorem sIvCompare_c (op al ah bl bh : Int) (w : World) : Calls Tryd.prog 8 #[.int .i64 op, .agg #[.int .i64 al, .int .i64 ah], .agg #[.int .i64 bl, .int .i64 bh]] w fun e w' => e = .returned (.agg #[.int .i64 (cmpLo op al ah bl bh), .int .i64 (cmpHi op al ah bl bh)]) ∧ Below w.heap.size w w' := by
  by_cases c1 : 13 ≤ op ∧ op ≤ 18
  · have d1 : cmpB op = true := decide_eq_true c1
    by_cases c2 : al ≤ ah
    · have d2 : okB al ah = true := decide_eq_true c2
      by_cases c3 : bl ≤ bh
      · exact sCmp_t op al ah bl bh c1 c2 c3 w
      · have d3 : okB bl bh = false := decide_eq_false c3
        have E : Hid (cmpLo op al ah bl bh = 0 ∧ cmpHi op al ah bl bh = 0) := ⟨if_neg (fun h => c3 h.2.2), if_neg (fun h => c3 h.2.2)⟩
        clear c1 c2 c3
        go_enter Tryd.func8, Tryd.ntmps8
        go_wp2_with fail
        refine (l7Compares_c _ _).mono ?_
        rintro e w1 ⟨rfl, hb1⟩
        have B1 := hb1.mono (show w.heap.size + 3 ≤ _ by simp)
        clear hb1
        obtain ⟨hc1, hf1⟩ := bcellB B1
        have HB1 := hide B1
        clear B1
        go_wp2_with fail
        refine (sIvOk_c _ _ _).mono ?_
        rintro e w2 ⟨rfl, hb2⟩
        have B2 := (unhide HB1).trans (hb2.mono (by have := (unhide HB1).size; simp at this; omega))
        clear hb2 hc1 hf1 HB1
        obtain ⟨hc2, hf2⟩ := bcellB B2
        have HB2 := hide B2
        clear B2
        go_wp2_with fail
        refine (sIvOk_c _ _ _).mono ?_
        rintro e w3 ⟨rfl, hb3⟩
        have B3 := (unhide HB2).trans (hb3.mono (by have := (unhide HB2).size; simp at this; omega))
        clear hb3 hc2 hf2 HB2
        obtain ⟨hc3, hf3⟩ := bcellB B3
        have K : Hid (Below w.heap.size w w3) := ((((Below.refl _ _).alloc (Nat.le_refl _) _).alloc (by simp) _).alloc (by simp; omega) _).trans (B3.mono (by omega))
        have z : Hid (w.heap.size + 3 ≤ w3.heap.size) := by have := B3.size; simp at this; unfold Hid; omega
        clear B3
        go_wp2
        exact bodyPost_ret (v := .agg #[.int .i64 0, .int .i64 0]) (by simp [results, Tryd.results8, go_sem, hc3]) rfl ⟨by rw [E.out.1, E.out.2], (K.out.setCell (by simp; omega) _).setCell (by simp; omega) _⟩
    · have d2 : okB al ah = false := decide_eq_false c2
      have E : Hid (cmpLo op al ah bl bh = 0 ∧ cmpHi op al ah bl bh = 0) := ⟨if_neg (fun h => c2 h.2.1), if_neg (fun h => c2 h.2.1)⟩
      clear c1 c2
      go_enter Tryd.func8, Tryd.ntmps8
      go_wp2_with fail
      refine (l7Compares_c _ _).mono ?_
      rintro e w1 ⟨rfl, hb1⟩
      have B1 := hb1.mono (show w.heap.size + 3 ≤ _ by simp)
      clear hb1
      obtain ⟨hc1, hf1⟩ := bcellB B1
      have HB1 := hide B1
      clear B1
      go_wp2_with fail
      refine (sIvOk_c _ _ _).mono ?_
      rintro e w2 ⟨rfl, hb2⟩
      have B2 := (unhide HB1).trans (hb2.mono (by have := (unhide HB1).size; simp at this; omega))
      clear hb2 hc1 hf1 HB1
      obtain ⟨hc2, hf2⟩ := bcellB B2
      have K : Hid (Below w.heap.size w w2) := ((((Below.refl _ _).alloc (Nat.le_refl _) _).alloc (by simp) _).alloc (by simp; omega) _).trans (B2.mono (by omega))
      have z : Hid (w.heap.size + 3 ≤ w2.heap.size) := by have := B2.size; simp at this; unfold Hid; omega
      clear B2
      go_wp2
      exact bodyPost_ret (v := .agg #[.int .i64 0, .int .i64 0]) (by simp [results, Tryd.results8, go_sem, hc2]) rfl ⟨by rw [E.out.1, E.out.2], (K.out.setCell (by simp; omega) _).setCell (by simp; omega) _⟩
  · have d1 : cmpB op = false := decide_eq_false c1
    have E : Hid (cmpLo op al ah bl bh = 0 ∧ cmpHi op al ah bl bh = 0) := ⟨if_neg (fun h => c1 h.1), if_neg (fun h => c1 h.1)⟩
    clear c1
    go_enter Tryd.func8, Tryd.ntmps8
    go_wp2_with fail
    refine (l7Compares_c _ _).mono ?_
    rintro e w1 ⟨rfl, hb1⟩
    have B1 := hb1.mono (show w.heap.size + 3 ≤ _ by simp)
    clear hb1
    obtain ⟨hc1, hf1⟩ := bcellB B1
    have K : Hid (Below w.heap.size w w1) := ((((Below.refl _ _).alloc (Nat.le_refl _) _).alloc (by simp) _).alloc (by simp; omega) _).trans (B1.mono (by omega))
    have z : Hid (w.heap.size + 3 ≤ w1.heap.size) := by have := B1.size; simp at this; unfold Hid; omega
    clear B1
    go_wp2
    exact bodyPost_ret (v := .agg #[.int .i64 0, .int .i64 0]) (by simp [results, Tryd.results8, go_sem, hc1]) rfl ⟨by rw [E.out.1, E.out.2], (K.out.setCell (by simp; omega) _).setCell (by simp; omega) _⟩
/-- Two pairs, a number in the package's variable, and the answer's own block. -/
@[reducible] def S4 (w0 : World) (M B : Nat) (x0 y0 x1 y1 : Int) (k : Nat) (v : Int) (w : World) : Prop :=
  (w.cell? ⟨B, 0, none⟩ = some (.int .i64 x0) ∧ w.cell? ⟨B, 1, none⟩ = some (.int .i64 y0) ∧ w.cell? ⟨B + 1, 0, none⟩ = some (.int .i64 x1) ∧ w.cell? ⟨B + 1, 1, none⟩ = some (.int .i64 y1) ∧ Below M w0 w ∧ M ≤ w.heap.size ∧ B + 2 ≤ w.heap.size) ∧ w.cell? ⟨0, k, none⟩ = some (.int .i64 v) ∧ Rz (B + 2) w
theorem S4.drew {w0 w : World} {M B k : Nat} {x0 y0 x1 y1 v : Int} (h : S4 w0 M B x0 y0 x1 y1 k v w) : S4 w0 M B x0 y0 x1 y1 k v w.drew := ⟨S2.drew h.1, h.2⟩
theorem S4.call {w0 w w1 : World} {M B k : Nat} {x0 y0 x1 y1 v : Int} (hb : Below w.heap.size w w1) (h : S4 w0 M B x0 y0 x1 y1 k v w) : S4 w0 M B x0 y0 x1 y1 k v w1 :=
  ⟨S2.call hb h.1, (hb.cell (World.block_lt_of_cell? w _ h.2.1)).trans h.2.1, h.2.2.call hb⟩
theorem S4.alloc {w0 w : World} {M B k : Nat} {x0 y0 x1 y1 v : Int} (h : S4 w0 M B x0 y0 x1 y1 k v w) (o : Obj) : S4 w0 M B x0 y0 x1 y1 k v (w.alloc o) :=
  S4.call ((Below.refl _ _).alloc (Nat.le_refl _) o) h
theorem S4.set {w0 w : World} {M B b o k : Nat} {x0 y0 x1 y1 v : Int} (h : S4 w0 M B x0 y0 x1 y1 k v w) (hb : B + 3 ≤ b) (hm : M ≤ b) (x : Value) : S4 w0 M B x0 y0 x1 y1 k v (w.setCell ⟨b, o, none⟩ x) := by
  have q : Below b w (w.setCell ⟨b, o, none⟩ x) := (Below.refl b w).setCell (p := ⟨b, o, none⟩) (Nat.le_refl _) x
  exact ⟨S2.set h.1 (by omega) hm x, (q.cell (p := ⟨0, k, none⟩) (by show 0 < b; omega)).trans h.2.1, (q.cell (by show B + 2 < b; omega)).trans h.2.2.1, (q.cell (by show B + 2 < b; omega)).trans h.2.2.2.1, (q.frozen (by show B + 2 < b; omega)).trans h.2.2.2.2.1, (q.frozen (by show B + 2 < b; omega)).trans h.2.2.2.2.2.1, Nat.lt_of_lt_of_le h.2.2.2.2.2.2 q.size⟩
/-- What the package's table of opposites holds where it is asked. -/
def OPP (w : World) : Prop := w.cell? ⟨0, 13, none⟩ = some (.int .i64 18) ∧ w.cell? ⟨0, 14, none⟩ = some (.int .i64 17) ∧ w.cell? ⟨0, 15, none⟩ = some (.int .i64 16) ∧ w.cell? ⟨0, 16, none⟩ = some (.int .i64 15) ∧ w.cell? ⟨0, 17, none⟩ = some (.int .i64 14) ∧ w.cell? ⟨0, 18, none⟩ = some (.int .i64 13)
theorem OPP.call {w w1 : World} (h : OPP w) (hb : Below w.heap.size w w1) : OPP w1 := by
  have lt := World.block_lt_of_cell? w _ h.1
  obtain ⟨a, b, c, d, e, f⟩ := h
  exact ⟨(hb.cell (by exact lt)).trans a, (hb.cell (by exact lt)).trans b, (hb.cell (by exact lt)).trans c, (hb.cell (by exact lt)).trans d, (hb.cell (by exact lt)).trans e, (hb.cell (by exact lt)).trans f⟩
set_option maxHeartbeats 2000000 in
theorem iCmp13 (al ah bl bh : Int) (ha : In al) (hh : In ah) (hl : In bl) (hg : In bh) (c2 : al ≤ ah ∧ bl ≤ bh) (w : World) (ho : w.cell? ⟨0, 13, none⟩ = some (.int .i64 18)) : Calls Tryd.prog 7 #[.int .i64 13, .agg #[.int .i64 al, .int .i64 ah], .agg #[.int .i64 bl, .int .i64 bh]] w fun e w' => e = .returned (.agg #[.int .i64 (oneN (!refB 18 al ah bl bh)), .int .i64 (oneN (refB 13 al ah bl bh))]) ∧ Below w.heap.size w w' := by
  have d1 : cmpB 13 = true := rfl
  have d2 : bothB al ah bl bh = true := decide_eq_true c2
  have ho' := hide ho
  clear ho
  go_enter Tryd.func7, Tryd.ntmps7
  go_wp2_with fail
  refine (isCompare_c _ _).mono ?_
  rintro e w1 ⟨rfl, hb1⟩
  have B1 := hb1.mono (show w.heap.size + 3 ≤ _ by simp)
  clear hb1
  obtain ⟨hc1, hf1⟩ := bcellB B1
  have HB1 := hide B1
  clear B1
  go_wp2_with fail
  refine (bothOk_c _ _ _ _ _).mono ?_
  rintro e w2 ⟨rfl, hb2⟩
  have B2 := (unhide HB1).trans (hb2.mono (by have := (unhide HB1).size; simp at this; omega))
  clear hb2 hc1 hf1 HB1
  obtain ⟨hc2, hf2⟩ := bcellB B2
  have HB2 := hide B2
  clear B2
  go_wp2_with fail
  refine (IvRefine_c _ _ _ _ _ ha hh hl hg _).mono ?_
  rintro e w3 ⟨rfl, hb3⟩
  have B3 := (unhide HB2).trans (hb3.mono (by have := (unhide HB2).size; simp at this; omega))
  clear hb3 hc2 hf2 HB2
  obtain ⟨hc3, hf3⟩ := bcellB B3
  have K : Hid (Below w.heap.size w w3) := ((((Below.refl _ _).alloc (Nat.le_refl _) _).alloc (by simp) _).alloc (by simp; omega) _).trans (B3.mono (by omega))
  have z : Hid (w.heap.size + 3 ≤ w3.heap.size) := by have := B3.size; simp at this; unfold Hid; omega
  clear B3
  have hS : Hid (S4 w w.heap.size w.heap.size al ah bl bh 13 18 w3) := ⟨⟨(hc3 w.heap.size 0 (by omega)).trans (by simp [go_sem]), (hc3 w.heap.size 1 (by omega)).trans (by simp [go_sem]), (hc3 (w.heap.size + 1) 0 (by omega)).trans (by simp [go_sem]), (hc3 (w.heap.size + 1) 1 (by omega)).trans (by simp [go_sem]), K.out, K.out.size, by have := z.out; omega⟩, (K.out.cell (World.block_lt_of_cell? w _ (unhide ho'))).trans (unhide ho'), (hc3 (w.heap.size + 2) 0 (by omega)).trans (by simp [go_sem]), (hc3 (w.heap.size + 2) 1 (by omega)).trans (by simp [go_sem]), (hf3 (w.heap.size + 2) 0 (by omega)).trans (by simp [go_sem]), (hf3 (w.heap.size + 2) 1 (by omega)).trans (by simp [go_sem]), by have := z.out; omega⟩
  clear hc3 hf3 ho'
  go_wp2_with fail
  have hS := S4.alloc (unhide hS) (Obj.cells #[.int .i64 (refL 13 al ah bl bh), .int .i64 (refH 13 al ah bl bh)] 25)
  have hz0 : w.heap.size + 3 ≤ (w3.alloc (Obj.cells #[.int .i64 (refL 13 al ah bl bh), .int .i64 (refH 13 al ah bl bh)] 25)).heap.size := by have := z.out; simp; omega
  generalize w3.alloc (Obj.cells #[.int .i64 (refL 13 al ah bl bh), .int .i64 (refH 13 al ah bl bh)] 25) = W at *
  go_cut [10] (fun q wc => q = .bool (refB 18 al ah bl bh) ∧ S4 w w.heap.size w.heap.size al ah bl bh 13 18 wc)
  case first =>
    go_region_held3 (S4 w w.heap.size w.heap.size al ah bl bh 13 18)
      (first | exact S4.drew (by assumption) | exact S4.call hb (by assumption) | exact S4.alloc (by assumption) _ | exact S4.set (S4.set (by assumption) (by omega) (by omega) _) (by omega) (by omega) _)
      (first
        | (go_at_call 20; refine (IvRefine_c _ _ _ _ _ ha hh hl hg _).mono ?_; rintro e w1 ⟨rfl, hb⟩; have hk := S4.call (x0 := al) (y0 := ah) (x1 := bl) (y1 := bh) (w0 := w) (M := w.heap.size) (B := w.heap.size) (k := 13) (v := 18) hb (by assumption); obtain ⟨hc, hf⟩ := bcell hb))
    all_goals (go_wp2_with fail; go_meet)
    all_goals first
      | exact ⟨rfl, S4.alloc hk _⟩
      | exact ⟨rfl, S4.set (S4.set hk (by omega) (by omega) _) (by omega) (by omega) _⟩
  case rest =>
  obtain ⟨rfl, ⟨_, _, _, _, kb, _, _⟩, _, r0, r1, r2, r3, rz⟩ := hcut
  have KB := hide kb
  clear kb
  go_wp2_with fail
  refine (truth_c _ _).mono ?_
  rintro e w5 ⟨rfl, rfl⟩
  go_wp2_with fail
  refine (truth_c _ _).mono ?_
  rintro e w5 ⟨rfl, rfl⟩
  go_wp2
  exact bodyPost_ret (v := .agg #[.int .i64 (oneN (!refB 18 al ah bl bh)), .int .i64 (oneN (refB 13 al ah bl bh))]) (by simp [results, Tryd.results7, go_sem, r0, r1]) rfl ⟨rfl, ((unhide KB).setCell (by simp; omega) _).setCell (by simp; omega) _⟩
set_option maxHeartbeats 2000000 in
theorem iCmp14 (al ah bl bh : Int) (ha : In al) (hh : In ah) (hl : In bl) (hg : In bh) (c2 : al ≤ ah ∧ bl ≤ bh) (w : World) (ho : w.cell? ⟨0, 14, none⟩ = some (.int .i64 17)) : Calls Tryd.prog 7 #[.int .i64 14, .agg #[.int .i64 al, .int .i64 ah], .agg #[.int .i64 bl, .int .i64 bh]] w fun e w' => e = .returned (.agg #[.int .i64 (oneN (!refB 17 al ah bl bh)), .int .i64 (oneN (refB 14 al ah bl bh))]) ∧ Below w.heap.size w w' := by
  have d1 : cmpB 14 = true := rfl
  have d2 : bothB al ah bl bh = true := decide_eq_true c2
  have ho' := hide ho
  clear ho
  go_enter Tryd.func7, Tryd.ntmps7
  go_wp2_with fail
  refine (isCompare_c _ _).mono ?_
  rintro e w1 ⟨rfl, hb1⟩
  have B1 := hb1.mono (show w.heap.size + 3 ≤ _ by simp)
  clear hb1
  obtain ⟨hc1, hf1⟩ := bcellB B1
  have HB1 := hide B1
  clear B1
  go_wp2_with fail
  refine (bothOk_c _ _ _ _ _).mono ?_
  rintro e w2 ⟨rfl, hb2⟩
  have B2 := (unhide HB1).trans (hb2.mono (by have := (unhide HB1).size; simp at this; omega))
  clear hb2 hc1 hf1 HB1
  obtain ⟨hc2, hf2⟩ := bcellB B2
  have HB2 := hide B2
  clear B2
  go_wp2_with fail
  refine (IvRefine_c _ _ _ _ _ ha hh hl hg _).mono ?_
  rintro e w3 ⟨rfl, hb3⟩
  have B3 := (unhide HB2).trans (hb3.mono (by have := (unhide HB2).size; simp at this; omega))
  clear hb3 hc2 hf2 HB2
  obtain ⟨hc3, hf3⟩ := bcellB B3
  have K : Hid (Below w.heap.size w w3) := ((((Below.refl _ _).alloc (Nat.le_refl _) _).alloc (by simp) _).alloc (by simp; omega) _).trans (B3.mono (by omega))
  have z : Hid (w.heap.size + 3 ≤ w3.heap.size) := by have := B3.size; simp at this; unfold Hid; omega
  clear B3
  have hS : Hid (S4 w w.heap.size w.heap.size al ah bl bh 14 17 w3) := ⟨⟨(hc3 w.heap.size 0 (by omega)).trans (by simp [go_sem]), (hc3 w.heap.size 1 (by omega)).trans (by simp [go_sem]), (hc3 (w.heap.size + 1) 0 (by omega)).trans (by simp [go_sem]), (hc3 (w.heap.size + 1) 1 (by omega)).trans (by simp [go_sem]), K.out, K.out.size, by have := z.out; omega⟩, (K.out.cell (World.block_lt_of_cell? w _ (unhide ho'))).trans (unhide ho'), (hc3 (w.heap.size + 2) 0 (by omega)).trans (by simp [go_sem]), (hc3 (w.heap.size + 2) 1 (by omega)).trans (by simp [go_sem]), (hf3 (w.heap.size + 2) 0 (by omega)).trans (by simp [go_sem]), (hf3 (w.heap.size + 2) 1 (by omega)).trans (by simp [go_sem]), by have := z.out; omega⟩
  clear hc3 hf3 ho'
  go_wp2_with fail
  have hS := S4.alloc (unhide hS) (Obj.cells #[.int .i64 (refL 14 al ah bl bh), .int .i64 (refH 14 al ah bl bh)] 25)
  have hz0 : w.heap.size + 3 ≤ (w3.alloc (Obj.cells #[.int .i64 (refL 14 al ah bl bh), .int .i64 (refH 14 al ah bl bh)] 25)).heap.size := by have := z.out; simp; omega
  generalize w3.alloc (Obj.cells #[.int .i64 (refL 14 al ah bl bh), .int .i64 (refH 14 al ah bl bh)] 25) = W at *
  go_cut [10] (fun q wc => q = .bool (refB 17 al ah bl bh) ∧ S4 w w.heap.size w.heap.size al ah bl bh 14 17 wc)
  case first =>
    go_region_held3 (S4 w w.heap.size w.heap.size al ah bl bh 14 17)
      (first | exact S4.drew (by assumption) | exact S4.call hb (by assumption) | exact S4.alloc (by assumption) _ | exact S4.set (S4.set (by assumption) (by omega) (by omega) _) (by omega) (by omega) _)
      (first
        | (go_at_call 20; refine (IvRefine_c _ _ _ _ _ ha hh hl hg _).mono ?_; rintro e w1 ⟨rfl, hb⟩; have hk := S4.call (x0 := al) (y0 := ah) (x1 := bl) (y1 := bh) (w0 := w) (M := w.heap.size) (B := w.heap.size) (k := 14) (v := 17) hb (by assumption); obtain ⟨hc, hf⟩ := bcell hb))
    all_goals (go_wp2_with fail; go_meet)
    all_goals first
      | exact ⟨rfl, S4.alloc hk _⟩
      | exact ⟨rfl, S4.set (S4.set hk (by omega) (by omega) _) (by omega) (by omega) _⟩
  case rest =>
  obtain ⟨rfl, ⟨_, _, _, _, kb, _, _⟩, _, r0, r1, r2, r3, rz⟩ := hcut
  have KB := hide kb
  clear kb
  go_wp2_with fail
  refine (truth_c _ _).mono ?_
  rintro e w5 ⟨rfl, rfl⟩
  go_wp2_with fail
  refine (truth_c _ _).mono ?_
  rintro e w5 ⟨rfl, rfl⟩
  go_wp2
  exact bodyPost_ret (v := .agg #[.int .i64 (oneN (!refB 17 al ah bl bh)), .int .i64 (oneN (refB 14 al ah bl bh))]) (by simp [results, Tryd.results7, go_sem, r0, r1]) rfl ⟨rfl, ((unhide KB).setCell (by simp; omega) _).setCell (by simp; omega) _⟩
set_option maxHeartbeats 2000000 in
theorem iCmp15 (al ah bl bh : Int) (ha : In al) (hh : In ah) (hl : In bl) (hg : In bh) (c2 : al ≤ ah ∧ bl ≤ bh) (w : World) (ho : w.cell? ⟨0, 15, none⟩ = some (.int .i64 16)) : Calls Tryd.prog 7 #[.int .i64 15, .agg #[.int .i64 al, .int .i64 ah], .agg #[.int .i64 bl, .int .i64 bh]] w fun e w' => e = .returned (.agg #[.int .i64 (oneN (!refB 16 al ah bl bh)), .int .i64 (oneN (refB 15 al ah bl bh))]) ∧ Below w.heap.size w w' := by
  have d1 : cmpB 15 = true := rfl
  have d2 : bothB al ah bl bh = true := decide_eq_true c2
  have ho' := hide ho
  clear ho
  go_enter Tryd.func7, Tryd.ntmps7
  go_wp2_with fail
  refine (isCompare_c _ _).mono ?_
  rintro e w1 ⟨rfl, hb1⟩
  have B1 := hb1.mono (show w.heap.size + 3 ≤ _ by simp)
  clear hb1
  obtain ⟨hc1, hf1⟩ := bcellB B1
  have HB1 := hide B1
  clear B1
  go_wp2_with fail
  refine (bothOk_c _ _ _ _ _).mono ?_
  rintro e w2 ⟨rfl, hb2⟩
  have B2 := (unhide HB1).trans (hb2.mono (by have := (unhide HB1).size; simp at this; omega))
  clear hb2 hc1 hf1 HB1
  obtain ⟨hc2, hf2⟩ := bcellB B2
  have HB2 := hide B2
  clear B2
  go_wp2_with fail
  refine (IvRefine_c _ _ _ _ _ ha hh hl hg _).mono ?_
  rintro e w3 ⟨rfl, hb3⟩
  have B3 := (unhide HB2).trans (hb3.mono (by have := (unhide HB2).size; simp at this; omega))
  clear hb3 hc2 hf2 HB2
  obtain ⟨hc3, hf3⟩ := bcellB B3
  have K : Hid (Below w.heap.size w w3) := ((((Below.refl _ _).alloc (Nat.le_refl _) _).alloc (by simp) _).alloc (by simp; omega) _).trans (B3.mono (by omega))
  have z : Hid (w.heap.size + 3 ≤ w3.heap.size) := by have := B3.size; simp at this; unfold Hid; omega
  clear B3
  have hS : Hid (S4 w w.heap.size w.heap.size al ah bl bh 15 16 w3) := ⟨⟨(hc3 w.heap.size 0 (by omega)).trans (by simp [go_sem]), (hc3 w.heap.size 1 (by omega)).trans (by simp [go_sem]), (hc3 (w.heap.size + 1) 0 (by omega)).trans (by simp [go_sem]), (hc3 (w.heap.size + 1) 1 (by omega)).trans (by simp [go_sem]), K.out, K.out.size, by have := z.out; omega⟩, (K.out.cell (World.block_lt_of_cell? w _ (unhide ho'))).trans (unhide ho'), (hc3 (w.heap.size + 2) 0 (by omega)).trans (by simp [go_sem]), (hc3 (w.heap.size + 2) 1 (by omega)).trans (by simp [go_sem]), (hf3 (w.heap.size + 2) 0 (by omega)).trans (by simp [go_sem]), (hf3 (w.heap.size + 2) 1 (by omega)).trans (by simp [go_sem]), by have := z.out; omega⟩
  clear hc3 hf3 ho'
  go_wp2_with fail
  have hS := S4.alloc (unhide hS) (Obj.cells #[.int .i64 (refL 15 al ah bl bh), .int .i64 (refH 15 al ah bl bh)] 25)
  have hz0 : w.heap.size + 3 ≤ (w3.alloc (Obj.cells #[.int .i64 (refL 15 al ah bl bh), .int .i64 (refH 15 al ah bl bh)] 25)).heap.size := by have := z.out; simp; omega
  generalize w3.alloc (Obj.cells #[.int .i64 (refL 15 al ah bl bh), .int .i64 (refH 15 al ah bl bh)] 25) = W at *
  go_cut [10] (fun q wc => q = .bool (refB 16 al ah bl bh) ∧ S4 w w.heap.size w.heap.size al ah bl bh 15 16 wc)
  case first =>
    go_region_held3 (S4 w w.heap.size w.heap.size al ah bl bh 15 16)
      (first | exact S4.drew (by assumption) | exact S4.call hb (by assumption) | exact S4.alloc (by assumption) _ | exact S4.set (S4.set (by assumption) (by omega) (by omega) _) (by omega) (by omega) _)
      (first
        | (go_at_call 20; refine (IvRefine_c _ _ _ _ _ ha hh hl hg _).mono ?_; rintro e w1 ⟨rfl, hb⟩; have hk := S4.call (x0 := al) (y0 := ah) (x1 := bl) (y1 := bh) (w0 := w) (M := w.heap.size) (B := w.heap.size) (k := 15) (v := 16) hb (by assumption); obtain ⟨hc, hf⟩ := bcell hb))
    all_goals (go_wp2_with fail; go_meet)
    all_goals first
      | exact ⟨rfl, S4.alloc hk _⟩
      | exact ⟨rfl, S4.set (S4.set hk (by omega) (by omega) _) (by omega) (by omega) _⟩
  case rest =>
  obtain ⟨rfl, ⟨_, _, _, _, kb, _, _⟩, _, r0, r1, r2, r3, rz⟩ := hcut
  have KB := hide kb
  clear kb
  go_wp2_with fail
  refine (truth_c _ _).mono ?_
  rintro e w5 ⟨rfl, rfl⟩
  go_wp2_with fail
  refine (truth_c _ _).mono ?_
  rintro e w5 ⟨rfl, rfl⟩
  go_wp2
  exact bodyPost_ret (v := .agg #[.int .i64 (oneN (!refB 16 al ah bl bh)), .int .i64 (oneN (refB 15 al ah bl bh))]) (by simp [results, Tryd.results7, go_sem, r0, r1]) rfl ⟨rfl, ((unhide KB).setCell (by simp; omega) _).setCell (by simp; omega) _⟩
set_option maxHeartbeats 2000000 in
theorem iCmp16 (al ah bl bh : Int) (ha : In al) (hh : In ah) (hl : In bl) (hg : In bh) (c2 : al ≤ ah ∧ bl ≤ bh) (w : World) (ho : w.cell? ⟨0, 16, none⟩ = some (.int .i64 15)) : Calls Tryd.prog 7 #[.int .i64 16, .agg #[.int .i64 al, .int .i64 ah], .agg #[.int .i64 bl, .int .i64 bh]] w fun e w' => e = .returned (.agg #[.int .i64 (oneN (!refB 15 al ah bl bh)), .int .i64 (oneN (refB 16 al ah bl bh))]) ∧ Below w.heap.size w w' := by
  have d1 : cmpB 16 = true := rfl
  have d2 : bothB al ah bl bh = true := decide_eq_true c2
  have ho' := hide ho
  clear ho
  go_enter Tryd.func7, Tryd.ntmps7
  go_wp2_with fail
  refine (isCompare_c _ _).mono ?_
  rintro e w1 ⟨rfl, hb1⟩
  have B1 := hb1.mono (show w.heap.size + 3 ≤ _ by simp)
  clear hb1
  obtain ⟨hc1, hf1⟩ := bcellB B1
  have HB1 := hide B1
  clear B1
  go_wp2_with fail
  refine (bothOk_c _ _ _ _ _).mono ?_
  rintro e w2 ⟨rfl, hb2⟩
  have B2 := (unhide HB1).trans (hb2.mono (by have := (unhide HB1).size; simp at this; omega))
  clear hb2 hc1 hf1 HB1
  obtain ⟨hc2, hf2⟩ := bcellB B2
  have HB2 := hide B2
  clear B2
  go_wp2_with fail
  refine (IvRefine_c _ _ _ _ _ ha hh hl hg _).mono ?_
  rintro e w3 ⟨rfl, hb3⟩
  have B3 := (unhide HB2).trans (hb3.mono (by have := (unhide HB2).size; simp at this; omega))
  clear hb3 hc2 hf2 HB2
  obtain ⟨hc3, hf3⟩ := bcellB B3
  have K : Hid (Below w.heap.size w w3) := ((((Below.refl _ _).alloc (Nat.le_refl _) _).alloc (by simp) _).alloc (by simp; omega) _).trans (B3.mono (by omega))
  have z : Hid (w.heap.size + 3 ≤ w3.heap.size) := by have := B3.size; simp at this; unfold Hid; omega
  clear B3
  have hS : Hid (S4 w w.heap.size w.heap.size al ah bl bh 16 15 w3) := ⟨⟨(hc3 w.heap.size 0 (by omega)).trans (by simp [go_sem]), (hc3 w.heap.size 1 (by omega)).trans (by simp [go_sem]), (hc3 (w.heap.size + 1) 0 (by omega)).trans (by simp [go_sem]), (hc3 (w.heap.size + 1) 1 (by omega)).trans (by simp [go_sem]), K.out, K.out.size, by have := z.out; omega⟩, (K.out.cell (World.block_lt_of_cell? w _ (unhide ho'))).trans (unhide ho'), (hc3 (w.heap.size + 2) 0 (by omega)).trans (by simp [go_sem]), (hc3 (w.heap.size + 2) 1 (by omega)).trans (by simp [go_sem]), (hf3 (w.heap.size + 2) 0 (by omega)).trans (by simp [go_sem]), (hf3 (w.heap.size + 2) 1 (by omega)).trans (by simp [go_sem]), by have := z.out; omega⟩
  clear hc3 hf3 ho'
  go_wp2_with fail
  have hS := S4.alloc (unhide hS) (Obj.cells #[.int .i64 (refL 16 al ah bl bh), .int .i64 (refH 16 al ah bl bh)] 25)
  have hz0 : w.heap.size + 3 ≤ (w3.alloc (Obj.cells #[.int .i64 (refL 16 al ah bl bh), .int .i64 (refH 16 al ah bl bh)] 25)).heap.size := by have := z.out; simp; omega
  generalize w3.alloc (Obj.cells #[.int .i64 (refL 16 al ah bl bh), .int .i64 (refH 16 al ah bl bh)] 25) = W at *
  go_cut [10] (fun q wc => q = .bool (refB 15 al ah bl bh) ∧ S4 w w.heap.size w.heap.size al ah bl bh 16 15 wc)
  case first =>
    go_region_held3 (S4 w w.heap.size w.heap.size al ah bl bh 16 15)
      (first | exact S4.drew (by assumption) | exact S4.call hb (by assumption) | exact S4.alloc (by assumption) _ | exact S4.set (S4.set (by assumption) (by omega) (by omega) _) (by omega) (by omega) _)
      (first
        | (go_at_call 20; refine (IvRefine_c _ _ _ _ _ ha hh hl hg _).mono ?_; rintro e w1 ⟨rfl, hb⟩; have hk := S4.call (x0 := al) (y0 := ah) (x1 := bl) (y1 := bh) (w0 := w) (M := w.heap.size) (B := w.heap.size) (k := 16) (v := 15) hb (by assumption); obtain ⟨hc, hf⟩ := bcell hb))
    all_goals (go_wp2_with fail; go_meet)
    all_goals first
      | exact ⟨rfl, S4.alloc hk _⟩
      | exact ⟨rfl, S4.set (S4.set hk (by omega) (by omega) _) (by omega) (by omega) _⟩
  case rest =>
  obtain ⟨rfl, ⟨_, _, _, _, kb, _, _⟩, _, r0, r1, r2, r3, rz⟩ := hcut
  have KB := hide kb
  clear kb
  go_wp2_with fail
  refine (truth_c _ _).mono ?_
  rintro e w5 ⟨rfl, rfl⟩
  go_wp2_with fail
  refine (truth_c _ _).mono ?_
  rintro e w5 ⟨rfl, rfl⟩
  go_wp2
  exact bodyPost_ret (v := .agg #[.int .i64 (oneN (!refB 15 al ah bl bh)), .int .i64 (oneN (refB 16 al ah bl bh))]) (by simp [results, Tryd.results7, go_sem, r0, r1]) rfl ⟨rfl, ((unhide KB).setCell (by simp; omega) _).setCell (by simp; omega) _⟩
set_option maxHeartbeats 2000000 in
theorem iCmp17 (al ah bl bh : Int) (ha : In al) (hh : In ah) (hl : In bl) (hg : In bh) (c2 : al ≤ ah ∧ bl ≤ bh) (w : World) (ho : w.cell? ⟨0, 17, none⟩ = some (.int .i64 14)) : Calls Tryd.prog 7 #[.int .i64 17, .agg #[.int .i64 al, .int .i64 ah], .agg #[.int .i64 bl, .int .i64 bh]] w fun e w' => e = .returned (.agg #[.int .i64 (oneN (!refB 14 al ah bl bh)), .int .i64 (oneN (refB 17 al ah bl bh))]) ∧ Below w.heap.size w w' := by
  have d1 : cmpB 17 = true := rfl
  have d2 : bothB al ah bl bh = true := decide_eq_true c2
  have ho' := hide ho
  clear ho
  go_enter Tryd.func7, Tryd.ntmps7
  go_wp2_with fail
  refine (isCompare_c _ _).mono ?_
  rintro e w1 ⟨rfl, hb1⟩
  have B1 := hb1.mono (show w.heap.size + 3 ≤ _ by simp)
  clear hb1
  obtain ⟨hc1, hf1⟩ := bcellB B1
  have HB1 := hide B1
  clear B1
  go_wp2_with fail
  refine (bothOk_c _ _ _ _ _).mono ?_
  rintro e w2 ⟨rfl, hb2⟩
  have B2 := (unhide HB1).trans (hb2.mono (by have := (unhide HB1).size; simp at this; omega))
  clear hb2 hc1 hf1 HB1
  obtain ⟨hc2, hf2⟩ := bcellB B2
  have HB2 := hide B2
  clear B2
  go_wp2_with fail
  refine (IvRefine_c _ _ _ _ _ ha hh hl hg _).mono ?_
  rintro e w3 ⟨rfl, hb3⟩
  have B3 := (unhide HB2).trans (hb3.mono (by have := (unhide HB2).size; simp at this; omega))
  clear hb3 hc2 hf2 HB2
  obtain ⟨hc3, hf3⟩ := bcellB B3
  have K : Hid (Below w.heap.size w w3) := ((((Below.refl _ _).alloc (Nat.le_refl _) _).alloc (by simp) _).alloc (by simp; omega) _).trans (B3.mono (by omega))
  have z : Hid (w.heap.size + 3 ≤ w3.heap.size) := by have := B3.size; simp at this; unfold Hid; omega
  clear B3
  have hS : Hid (S4 w w.heap.size w.heap.size al ah bl bh 17 14 w3) := ⟨⟨(hc3 w.heap.size 0 (by omega)).trans (by simp [go_sem]), (hc3 w.heap.size 1 (by omega)).trans (by simp [go_sem]), (hc3 (w.heap.size + 1) 0 (by omega)).trans (by simp [go_sem]), (hc3 (w.heap.size + 1) 1 (by omega)).trans (by simp [go_sem]), K.out, K.out.size, by have := z.out; omega⟩, (K.out.cell (World.block_lt_of_cell? w _ (unhide ho'))).trans (unhide ho'), (hc3 (w.heap.size + 2) 0 (by omega)).trans (by simp [go_sem]), (hc3 (w.heap.size + 2) 1 (by omega)).trans (by simp [go_sem]), (hf3 (w.heap.size + 2) 0 (by omega)).trans (by simp [go_sem]), (hf3 (w.heap.size + 2) 1 (by omega)).trans (by simp [go_sem]), by have := z.out; omega⟩
  clear hc3 hf3 ho'
  go_wp2_with fail
  have hS := S4.alloc (unhide hS) (Obj.cells #[.int .i64 (refL 17 al ah bl bh), .int .i64 (refH 17 al ah bl bh)] 25)
  have hz0 : w.heap.size + 3 ≤ (w3.alloc (Obj.cells #[.int .i64 (refL 17 al ah bl bh), .int .i64 (refH 17 al ah bl bh)] 25)).heap.size := by have := z.out; simp; omega
  generalize w3.alloc (Obj.cells #[.int .i64 (refL 17 al ah bl bh), .int .i64 (refH 17 al ah bl bh)] 25) = W at *
  go_cut [10] (fun q wc => q = .bool (refB 14 al ah bl bh) ∧ S4 w w.heap.size w.heap.size al ah bl bh 17 14 wc)
  case first =>
    go_region_held3 (S4 w w.heap.size w.heap.size al ah bl bh 17 14)
      (first | exact S4.drew (by assumption) | exact S4.call hb (by assumption) | exact S4.alloc (by assumption) _ | exact S4.set (S4.set (by assumption) (by omega) (by omega) _) (by omega) (by omega) _)
      (first
        | (go_at_call 20; refine (IvRefine_c _ _ _ _ _ ha hh hl hg _).mono ?_; rintro e w1 ⟨rfl, hb⟩; have hk := S4.call (x0 := al) (y0 := ah) (x1 := bl) (y1 := bh) (w0 := w) (M := w.heap.size) (B := w.heap.size) (k := 17) (v := 14) hb (by assumption); obtain ⟨hc, hf⟩ := bcell hb))
    all_goals (go_wp2_with fail; go_meet)
    all_goals first
      | exact ⟨rfl, S4.alloc hk _⟩
      | exact ⟨rfl, S4.set (S4.set hk (by omega) (by omega) _) (by omega) (by omega) _⟩
  case rest =>
  obtain ⟨rfl, ⟨_, _, _, _, kb, _, _⟩, _, r0, r1, r2, r3, rz⟩ := hcut
  have KB := hide kb
  clear kb
  go_wp2_with fail
  refine (truth_c _ _).mono ?_
  rintro e w5 ⟨rfl, rfl⟩
  go_wp2_with fail
  refine (truth_c _ _).mono ?_
  rintro e w5 ⟨rfl, rfl⟩
  go_wp2
  exact bodyPost_ret (v := .agg #[.int .i64 (oneN (!refB 14 al ah bl bh)), .int .i64 (oneN (refB 17 al ah bl bh))]) (by simp [results, Tryd.results7, go_sem, r0, r1]) rfl ⟨rfl, ((unhide KB).setCell (by simp; omega) _).setCell (by simp; omega) _⟩
set_option maxHeartbeats 2000000 in
theorem iCmp18 (al ah bl bh : Int) (ha : In al) (hh : In ah) (hl : In bl) (hg : In bh) (c2 : al ≤ ah ∧ bl ≤ bh) (w : World) (ho : w.cell? ⟨0, 18, none⟩ = some (.int .i64 13)) : Calls Tryd.prog 7 #[.int .i64 18, .agg #[.int .i64 al, .int .i64 ah], .agg #[.int .i64 bl, .int .i64 bh]] w fun e w' => e = .returned (.agg #[.int .i64 (oneN (!refB 13 al ah bl bh)), .int .i64 (oneN (refB 18 al ah bl bh))]) ∧ Below w.heap.size w w' := by
  have d1 : cmpB 18 = true := rfl
  have d2 : bothB al ah bl bh = true := decide_eq_true c2
  have ho' := hide ho
  clear ho
  go_enter Tryd.func7, Tryd.ntmps7
  go_wp2_with fail
  refine (isCompare_c _ _).mono ?_
  rintro e w1 ⟨rfl, hb1⟩
  have B1 := hb1.mono (show w.heap.size + 3 ≤ _ by simp)
  clear hb1
  obtain ⟨hc1, hf1⟩ := bcellB B1
  have HB1 := hide B1
  clear B1
  go_wp2_with fail
  refine (bothOk_c _ _ _ _ _).mono ?_
  rintro e w2 ⟨rfl, hb2⟩
  have B2 := (unhide HB1).trans (hb2.mono (by have := (unhide HB1).size; simp at this; omega))
  clear hb2 hc1 hf1 HB1
  obtain ⟨hc2, hf2⟩ := bcellB B2
  have HB2 := hide B2
  clear B2
  go_wp2_with fail
  refine (IvRefine_c _ _ _ _ _ ha hh hl hg _).mono ?_
  rintro e w3 ⟨rfl, hb3⟩
  have B3 := (unhide HB2).trans (hb3.mono (by have := (unhide HB2).size; simp at this; omega))
  clear hb3 hc2 hf2 HB2
  obtain ⟨hc3, hf3⟩ := bcellB B3
  have K : Hid (Below w.heap.size w w3) := ((((Below.refl _ _).alloc (Nat.le_refl _) _).alloc (by simp) _).alloc (by simp; omega) _).trans (B3.mono (by omega))
  have z : Hid (w.heap.size + 3 ≤ w3.heap.size) := by have := B3.size; simp at this; unfold Hid; omega
  clear B3
  have hS : Hid (S4 w w.heap.size w.heap.size al ah bl bh 18 13 w3) := ⟨⟨(hc3 w.heap.size 0 (by omega)).trans (by simp [go_sem]), (hc3 w.heap.size 1 (by omega)).trans (by simp [go_sem]), (hc3 (w.heap.size + 1) 0 (by omega)).trans (by simp [go_sem]), (hc3 (w.heap.size + 1) 1 (by omega)).trans (by simp [go_sem]), K.out, K.out.size, by have := z.out; omega⟩, (K.out.cell (World.block_lt_of_cell? w _ (unhide ho'))).trans (unhide ho'), (hc3 (w.heap.size + 2) 0 (by omega)).trans (by simp [go_sem]), (hc3 (w.heap.size + 2) 1 (by omega)).trans (by simp [go_sem]), (hf3 (w.heap.size + 2) 0 (by omega)).trans (by simp [go_sem]), (hf3 (w.heap.size + 2) 1 (by omega)).trans (by simp [go_sem]), by have := z.out; omega⟩
  clear hc3 hf3 ho'
  go_wp2_with fail
  have hS := S4.alloc (unhide hS) (Obj.cells #[.int .i64 (refL 18 al ah bl bh), .int .i64 (refH 18 al ah bl bh)] 25)
  have hz0 : w.heap.size + 3 ≤ (w3.alloc (Obj.cells #[.int .i64 (refL 18 al ah bl bh), .int .i64 (refH 18 al ah bl bh)] 25)).heap.size := by have := z.out; simp; omega
  generalize w3.alloc (Obj.cells #[.int .i64 (refL 18 al ah bl bh), .int .i64 (refH 18 al ah bl bh)] 25) = W at *
  go_cut [10] (fun q wc => q = .bool (refB 13 al ah bl bh) ∧ S4 w w.heap.size w.heap.size al ah bl bh 18 13 wc)
  case first =>
    go_region_held3 (S4 w w.heap.size w.heap.size al ah bl bh 18 13)
      (first | exact S4.drew (by assumption) | exact S4.call hb (by assumption) | exact S4.alloc (by assumption) _ | exact S4.set (S4.set (by assumption) (by omega) (by omega) _) (by omega) (by omega) _)
      (first
        | (go_at_call 20; refine (IvRefine_c _ _ _ _ _ ha hh hl hg _).mono ?_; rintro e w1 ⟨rfl, hb⟩; have hk := S4.call (x0 := al) (y0 := ah) (x1 := bl) (y1 := bh) (w0 := w) (M := w.heap.size) (B := w.heap.size) (k := 18) (v := 13) hb (by assumption); obtain ⟨hc, hf⟩ := bcell hb))
    all_goals (go_wp2_with fail; go_meet)
    all_goals first
      | exact ⟨rfl, S4.alloc hk _⟩
      | exact ⟨rfl, S4.set (S4.set hk (by omega) (by omega) _) (by omega) (by omega) _⟩
  case rest =>
  obtain ⟨rfl, ⟨_, _, _, _, kb, _, _⟩, _, r0, r1, r2, r3, rz⟩ := hcut
  have KB := hide kb
  clear kb
  go_wp2_with fail
  refine (truth_c _ _).mono ?_
  rintro e w5 ⟨rfl, rfl⟩
  go_wp2_with fail
  refine (truth_c _ _).mono ?_
  rintro e w5 ⟨rfl, rfl⟩
  go_wp2
  exact bodyPost_ret (v := .agg #[.int .i64 (oneN (!refB 13 al ah bl bh)), .int .i64 (oneN (refB 18 al ah bl bh))]) (by simp [results, Tryd.results7, go_sem, r0, r1]) rfl ⟨rfl, ((unhide KB).setCell (by simp; omega) _).setCell (by simp; omega) _⟩
theorem IvCompare_c (op al ah bl bh : Int) (ha : In al) (hh : In ah) (hl : In bl) (hg : In bh) (w : World) (ho : OPP w) : Calls Tryd.prog 7 #[.int .i64 op, .agg #[.int .i64 al, .int .i64 ah], .agg #[.int .i64 bl, .int .i64 bh]] w fun e w' => e = .returned (.agg #[.int .i64 (cmpLo op al ah bl bh), .int .i64 (cmpHi op al ah bl bh)]) ∧ Below w.heap.size w w' := by
  by_cases c1 : 13 ≤ op ∧ op ≤ 18
  · by_cases c2 : al ≤ ah ∧ bl ≤ bh
    · have e1 : cmpLo op al ah bl bh = oneN (!refB (notN op) al ah bl bh) := by
        rw [ref_all (not_in c1) c2, not_not c1, Bool.not_not]; exact if_pos ⟨c1, c2⟩
      have e2 : cmpHi op al ah bl bh = oneN (refB op al ah bl bh) := by
        rw [ref_all c1 c2]; refine (if_pos ⟨c1, c2⟩).trans ?_
        cases allB (notN op) al ah bl bh <;> rfl
      rw [e1, e2]
      obtain ⟨o1, o2, o3, o4, o5, o6⟩ := ho
      rcases (by omega : op = 13 ∨ op = 14 ∨ op = 15 ∨ op = 16 ∨ op = 17 ∨ op = 18) with rfl | rfl | rfl | rfl | rfl | rfl
      · exact iCmp13 _ _ _ _ ha hh hl hg c2 w o1
      · exact iCmp14 _ _ _ _ ha hh hl hg c2 w o2
      · exact iCmp15 _ _ _ _ ha hh hl hg c2 w o3
      · exact iCmp16 _ _ _ _ ha hh hl hg c2 w o4
      · exact iCmp17 _ _ _ _ ha hh hl hg c2 w o5
      · exact iCmp18 _ _ _ _ ha hh hl hg c2 w o6
    · have d1 : cmpB op = true := decide_eq_true c1
      have d2 : bothB al ah bl bh = false := decide_eq_false c2
      have E : Hid (cmpLo op al ah bl bh = 0 ∧ cmpHi op al ah bl bh = 0) := ⟨if_neg (fun h => c2 h.2), if_neg (fun h => c2 h.2)⟩
      clear c1 c2 ho
      go_enter Tryd.func7, Tryd.ntmps7
      go_wp2_with fail
      refine (isCompare_c _ _).mono ?_
      rintro e w1 ⟨rfl, hb1⟩
      have B1 := hb1.mono (show w.heap.size + 3 ≤ _ by simp)
      clear hb1
      obtain ⟨hc1, hf1⟩ := bcellB B1
      have HB1 := hide B1
      clear B1
      go_wp2_with fail
      refine (bothOk_c _ _ _ _ _).mono ?_
      rintro e w2 ⟨rfl, hb2⟩
      have B2 := (unhide HB1).trans (hb2.mono (by have := (unhide HB1).size; simp at this; omega))
      clear hb2 hc1 hf1 HB1
      obtain ⟨hc2, hf2⟩ := bcellB B2
      have K : Hid (Below w.heap.size w w2) := ((((Below.refl _ _).alloc (Nat.le_refl _) _).alloc (by simp) _).alloc (by simp; omega) _).trans (B2.mono (by omega))
      have z : Hid (w.heap.size + 3 ≤ w2.heap.size) := by have := B2.size; simp at this; unfold Hid; omega
      clear B2
      go_wp2
      exact bodyPost_ret (v := .agg #[.int .i64 0, .int .i64 0]) (by simp [results, Tryd.results7, go_sem, hc2]) rfl ⟨by rw [E.out.1, E.out.2], (K.out.setCell (by simp; omega) _).setCell (by simp; omega) _⟩
  · have d1 : cmpB op = false := decide_eq_false c1
    have E : Hid (cmpLo op al ah bl bh = 0 ∧ cmpHi op al ah bl bh = 0) := ⟨if_neg (fun h => c1 h.1), if_neg (fun h => c1 h.1)⟩
    clear c1 ho
    go_enter Tryd.func7, Tryd.ntmps7
    go_wp2_with fail
    refine (isCompare_c _ _).mono ?_
    rintro e w1 ⟨rfl, hb1⟩
    have B1 := hb1.mono (show w.heap.size + 3 ≤ _ by simp)
    clear hb1
    obtain ⟨hc1, hf1⟩ := bcellB B1
    have K : Hid (Below w.heap.size w w1) := ((((Below.refl _ _).alloc (Nat.le_refl _) _).alloc (by simp) _).alloc (by simp; omega) _).trans (B1.mono (by omega))
    have z : Hid (w.heap.size + 3 ≤ w1.heap.size) := by have := B1.size; simp at this; unfold Hid; omega
    clear B1
    go_wp2
    exact bodyPost_ret (v := .agg #[.int .i64 0, .int .i64 0]) (by simp [results, Tryd.results7, go_sem, hc1]) rfl ⟨by rw [E.out.1, E.out.2], (K.out.setCell (by simp; omega) _).setCell (by simp; omega) _⟩
end Go.Proofs.YtlgjbfkhajphdaaDoor
