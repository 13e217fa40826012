/- The program's remainders of intervals. -/
import Derived.Test.YtfnedaidljppnaaRemA
import Derived.Test.YtfnedaidljppnaaValD
namespace Go.Proofs.Ytfnedaidljppnaa
open Go.RowKit Go.Iv
set_option linter.unusedSimpArgs false

def remV (al ah bl bh : Int) : V := if al ≤ ah ∧ bl ≤ bh then (if bl = 0 ∧ bh = 0 then ⟨0, 0, false, 1⟩ else ⟨reL al ah bl bh, reH al ah bl bh, true, dvA bl bh⟩) else zeroV
theorem rem_bad (al ah bl bh : Int) (h : ¬ (al ≤ ah ∧ bl ≤ bh)) (w : World) : Calls Try.prog 31 #[.agg #[.int .i64 al, .int .i64 ah], .agg #[.int .i64 bl, .int .i64 bh]] w fun e w' => e = .returned (.agg #[.int .i64 (remV al ah bl bh).lo, .int .i64 (remV al ah bl bh).hi, .bool (remV al ah bl bh).live, .int .i64 (remV al ah bl bh).al]) ∧ Below w.heap.size w w' := by
  have HR := hide (show remV al ah bl bh = zeroV from if_neg h)
  rw [unhide HR]
  clear HR
  have e1 : bothB al ah bl bh = false := decide_eq_false h
  clear h
  go_enter Try.func31, Try.ntmps31
  go_wp2_with fail
  refine (bothOk_c _ _ _ _ _).mono ?_
  rintro e w1 ⟨rfl, hb1⟩
  have B1 := hb1.mono (show w.heap.size + 3 ≤ _ by simp)
  clear hb1
  obtain ⟨hc1, hf1⟩ := bcellB B1
  have K1 := hide (((((Below.refl _ w).alloc (Nat.le_refl _) _).alloc (by simp) _).alloc (by simp; omega) _).trans (B1.mono (by omega)))
  clear B1
  go_wp2
  exact bodyPost_ret (v := .agg #[.int .i64 0, .int .i64 0, .bool false, .int .i64 0]) (by simp [results, Try.results31, go_sem, hc1]) rfl ⟨rfl, ((((unhide K1).setCell (by simp; omega) _).setCell (by simp; omega) _).setCell (by simp; omega) _).setCell (by simp; omega) _⟩
theorem rem_zero (al ah : Int) (h : al ≤ ah) (w : World) : Calls Try.prog 31 #[.agg #[.int .i64 al, .int .i64 ah], .agg #[.int .i64 0, .int .i64 0]] w fun e w' => e = .returned (.agg #[.int .i64 (remV al ah 0 0).lo, .int .i64 (remV al ah 0 0).hi, .bool (remV al ah 0 0).live, .int .i64 (remV al ah 0 0).al]) ∧ Below w.heap.size w w' := by
  have HR := hide (show remV al ah 0 0 = ⟨0, 0, false, 1⟩ by unfold remV; rw [if_pos ⟨h, by omega⟩, if_pos ⟨rfl, rfl⟩])
  rw [unhide HR]
  clear HR
  have e1 : bothB al ah 0 0 = true := decide_eq_true ⟨h, by omega⟩
  clear h
  go_enter Try.func31, Try.ntmps31
  go_wp2_with fail
  refine (bothOk_c _ _ _ _ _).mono ?_
  rintro e w1 ⟨rfl, hb1⟩
  have B1 := hb1.mono (show w.heap.size + 3 ≤ _ by simp)
  clear hb1
  obtain ⟨hc1, hf1⟩ := bcellB B1
  have K1 := hide (((((Below.refl _ w).alloc (Nat.le_refl _) _).alloc (by simp) _).alloc (by simp; omega) _).trans (B1.mono (by omega)))
  clear B1
  go_wp2
  exact bodyPost_ret (v := .agg #[.int .i64 0, .int .i64 0, .bool false, .int .i64 1]) (by simp [results, Try.results31, go_sem, hc1]) rfl ⟨rfl, ((((unhide K1).setCell (by simp; omega) _).setCell (by simp; omega) _).setCell (by simp; omega) _).setCell (by simp; omega) _⟩
set_option maxHeartbeats 2000000 in
set_option maxHeartbeats 2000000 in
theorem rem_ok1 (al ah bl bh : Int) (hal : In al) (hbl : In bl) (hbh : In bh) (h : al ≤ ah ∧ bl ≤ bh) (h0 : ¬ bl = 0) (w : World) : Calls Try.prog 31 #[.agg #[.int .i64 al, .int .i64 ah], .agg #[.int .i64 bl, .int .i64 bh]] w fun e w' => e = .returned (.agg #[.int .i64 (remV al ah (bl) bh).lo, .int .i64 (remV al ah (bl) bh).hi, .bool (remV al ah (bl) bh).live, .int .i64 (remV al ah (bl) bh).al]) ∧ Below w.heap.size w w' := by
  have HR := hide (show remV al ah (bl) bh = ⟨reL al ah (bl) bh, reH al ah (bl) bh, true, dvA (bl) bh⟩ by unfold remV; rw [if_pos h, if_neg (by omega)])
  rw [unhide HR]
  clear HR
  have e1 : bothB al ah (bl) bh = true := decide_eq_true h
  have e2 : (bl == 0) = false := by simpa using h0
  have HI := hide (And.intro hal (And.intro hbl hbh))
  clear h hal hbl hbh h0
  go_enter Try.func31, Try.ntmps31
  go_wp2_with fail
  refine (bothOk_c _ _ _ _ _).mono ?_
  rintro e w1 ⟨rfl, hb1⟩
  have B1 := hb1.mono (show w.heap.size + 3 ≤ _ by simp)
  clear hb1
  obtain ⟨hc1, hf1⟩ := bcellB B1
  have hs1 : S2 w w.heap.size w.heap.size al ah (bl) bh w1 := by
    have z := B1.size
    simp at z
    exact ⟨(B1.cell (by show w.heap.size < _; omega)).trans (by simp [go_sem]), (B1.cell (by show w.heap.size < _; omega)).trans (by simp [go_sem]), (B1.cell (by show w.heap.size + 1 < _; omega)).trans (by simp [go_sem]), (B1.cell (by show w.heap.size + 1 < _; omega)).trans (by simp [go_sem]), ((((Below.refl _ w).alloc (Nat.le_refl _) _).alloc (by simp) _).alloc (by simp; omega) _).trans (B1.mono (by omega)), by omega, by omega⟩
  have hr1 := hide (show Z4 w.heap.size w.heap.size (w.heap.size + 2) w1.drew by
    have z := B1.size
    simp at z
    exact ⟨⟨(B1.cell (by show w.heap.size + 2 < _; omega)).trans (by simp [go_sem]), (B1.cell (by show w.heap.size + 2 < _; omega)).trans (by simp [go_sem]), (B1.cell (by show w.heap.size + 2 < _; omega)).trans (by simp [go_sem]), (B1.cell (by show w.heap.size + 2 < _; omega)).trans (by simp [go_sem])⟩, by omega, by omega, by show _ < w1.heap.size; omega, fun o => (B1.frozen (by show w.heap.size + 2 < _; omega)).trans (by simp [go_sem])⟩)
  clear B1
  go_wp2
  clear hc1 hf1
  refine wp_region_held_drew (S := S2 w w.heap.size w.heap.size (al) (ah) (bl) (bh)) (by kernel_rfl) (by exact S2.drew hs1) (fun hHeld => ?_)
  refine wpAnyH_take (i := 0) (oi := { dst := some 14, op := Op.load 25 (Operand.tmp 2), type := 25, pos := "l02_intervals.go:110", after := #[], guard := none }) (v := ?_) rfl (by kernel_rfl) (by kernel_rfl) (by kernel_rfl) (fun _ _ _ h => h) (Or.inl ⟨by rfl, ?_⟩) (by assumption) ?_
  rotate_left
  · (intro w hSw; (try dsimp only at hSw); go_simp; try with_reducible rfl)
  try simp only [Act.put, List.setIfInBounds_toArray, List.set_cons_zero, List.set_cons_succ]
  refine wpAnyH_take (i := 1) (oi := { dst := some 15, op := Op.load 25 (Operand.tmp 3), type := 25, pos := "l02_intervals.go:110", after := #[], guard := none }) (v := ?_) rfl (by kernel_rfl) (by kernel_rfl) (by kernel_rfl) (fun _ _ _ h => h) (Or.inl ⟨by rfl, ?_⟩) (by assumption) ?_
  rotate_left
  · (intro w hSw; (try dsimp only at hSw); go_simp; try with_reducible rfl)
  try simp only [Act.put, List.setIfInBounds_toArray, List.set_cons_zero, List.set_cons_succ]
  refine wpAnyH_take (i := 3) (oi := { dst := some 17, op := Op.load 25 (Operand.tmp 3), type := 25, pos := "l02_intervals.go:110", after := #[], guard := none }) (v := ?_) rfl (by kernel_rfl) (by kernel_rfl) (by kernel_rfl) (fun _ _ _ h => h) (Or.inl ⟨by rfl, ?_⟩) (by assumption) ?_
  rotate_left
  · (intro w hSw; (try dsimp only at hSw); go_simp; try with_reducible rfl)
  try simp only [Act.put, List.setIfInBounds_toArray, List.set_cons_zero, List.set_cons_succ]
  refine wpAnyH_ready (rs := [2]) (by kernel_rfl) (by simp) ?_
  refine AllReadyH.cons (i := 2) (o := { dst := some 16, op := Op.call { callee := Callee.value (Operand.func 54), args := #[Operand.tmp 14, Operand.tmp 15], argTypes := #[25, 25] }, type := 25, pos := "l02_intervals.go:110", after := #[{ on := 0, ground := Ground.data }, { on := 1, ground := Ground.data }], guard := none }) rfl (fun K hK => ?_) AllReadyH.nil
  go_simp
  (refine (restsOf_c _ _ _ _ (unhide HI).1 (unhide HI).2.1 (unhide HI).2.2 _).mono ?_; rintro e w2 ⟨rfl, hb⟩; have hr2 := hide (Z4.call hb (unhide hr1)))
  refine hK.out _ _ (S2.call hb (by assumption)) (fun hHeld => ?_)
  clear hK K
  try simp only [Act.put, List.setIfInBounds_toArray, List.set_cons_zero, List.set_cons_succ]
  refine wpAnyH_ready (rs := [4]) (by kernel_rfl) (by simp) ?_
  refine AllReadyH.cons (i := 4) (o := { dst := some 18, op := Op.call { callee := Callee.value (Operand.func 50), args := #[Operand.tmp 17], argTypes := #[25] }, type := 2, pos := "l02_intervals.go:110", after := #[{ on := 3, ground := Ground.data }, { on := 2, ground := Ground.chain }], guard := none }) rfl (fun K hK => ?_) AllReadyH.nil
  go_simp
  (refine (divAlarm_c _ _ _).mono ?_; rintro e w3 ⟨rfl, hb⟩; have hr3 := hide (Z4.call hb (unhide hr2)))
  refine hK.out _ _ (S2.call hb (by assumption)) (fun hHeld => ?_)
  clear hK K
  try simp only [Act.put, List.setIfInBounds_toArray, List.set_cons_zero, List.set_cons_succ]
  refine wpAnyH_take (i := 5) (oi := { dst := some 19, op := Op.build 30 #[(0, Operand.tmp 16), (1, Operand.const (Value.bool true)), (2, Operand.tmp 18)], type := 30, pos := "l02_intervals.go:110", after := #[{ on := 2, ground := Ground.data }, { on := 4, ground := Ground.data }], guard := none }) (v := ?_) rfl (by kernel_rfl) (by kernel_rfl) (by kernel_rfl) (fun _ _ _ h => h) (Or.inl ⟨by rfl, ?_⟩) (by assumption) ?_
  rotate_left
  · (intro w hSw; (try dsimp only at hSw); go_simp; try with_reducible rfl)
  try simp only [Act.put, List.setIfInBounds_toArray, List.set_cons_zero, List.set_cons_succ]
  have hz3 := unhide hr3
  obtain ⟨⟨c0, c1, c2, c3⟩, _, _, z3, z4⟩ := hz3
  have g0 := z4 0
  have g1 := z4 1
  have g2 := z4 2
  have g3 := z4 3
  have K3 := hide (by assumption : S2 w w.heap.size w.heap.size (al) (ah) (bl) (bh) w3).2.2.2.2.1
  refine wpAnyH_ready (rs := [6]) (by kernel_rfl) (by simp) ?_
  refine AllReadyH.cons (i := 6) (o := { dst := none, op := Op.store 30 (Operand.tmp 4) (Operand.tmp 19), type := 0, pos := "l02_intervals.go:110", after := #[{ on := 5, ground := Ground.data }, { on := 4, ground := Ground.chain }, { on := 0, ground := Ground.phase }, { on := 1, ground := Ground.phase }, { on := 2, ground := Ground.phase }, { on := 3, ground := Ground.phase }, { on := 4, ground := Ground.phase }, { on := 5, ground := Ground.phase }], guard := none }) rfl (fun K hK => ?_) AllReadyH.nil
  go_simp
  refine hK.out _ _ (S2.set (S2.set (S2.set (S2.set (by assumption) (by omega) (by omega) _) (by omega) (by omega) _) (by omega) (by omega) _) (by omega) (by omega) _) (fun hHeld => ?_)
  clear hK K
  try simp only [Act.put, List.setIfInBounds_toArray, List.set_cons_zero, List.set_cons_succ]
  refine wpAnyH_done (by kernel_rfl) ?_ _
  go_wp2
  exact bodyPost_ret (v := .agg #[.int .i64 (reL al ah (bl) bh), .int .i64 (reH al ah (bl) bh), .bool true, .int .i64 (dvA (bl) bh)]) (by simp [results, Try.results31, go_sem, *]) rfl ⟨rfl, ((((unhide K3).setCell (by simp; omega) _).setCell (by simp; omega) _).setCell (by simp; omega) _).setCell (by simp; omega) _⟩
set_option maxHeartbeats 2000000 in
theorem rem_ok2 (al ah bh : Int) (hal : In al) (hbl : In 0) (hbh : In bh) (h : al ≤ ah ∧ 0 ≤ bh) (h0 : ¬ bh = 0) (w : World) : Calls Try.prog 31 #[.agg #[.int .i64 al, .int .i64 ah], .agg #[.int .i64 0, .int .i64 bh]] w fun e w' => e = .returned (.agg #[.int .i64 (remV al ah (0) bh).lo, .int .i64 (remV al ah (0) bh).hi, .bool (remV al ah (0) bh).live, .int .i64 (remV al ah (0) bh).al]) ∧ Below w.heap.size w w' := by
  have HR := hide (show remV al ah (0) bh = ⟨reL al ah (0) bh, reH al ah (0) bh, true, dvA (0) bh⟩ by unfold remV; rw [if_pos h, if_neg (by omega)])
  rw [unhide HR]
  clear HR
  have e1 : bothB al ah (0) bh = true := decide_eq_true h
  have e2 : (bh == 0) = false := by simpa using h0
  have HI := hide (And.intro hal (And.intro hbl hbh))
  clear h hal hbl hbh h0
  go_enter Try.func31, Try.ntmps31
  go_wp2_with fail
  refine (bothOk_c _ _ _ _ _).mono ?_
  rintro e w1 ⟨rfl, hb1⟩
  have B1 := hb1.mono (show w.heap.size + 3 ≤ _ by simp)
  clear hb1
  obtain ⟨hc1, hf1⟩ := bcellB B1
  have hs1 : S2 w w.heap.size w.heap.size al ah (0) bh w1 := by
    have z := B1.size
    simp at z
    exact ⟨(B1.cell (by show w.heap.size < _; omega)).trans (by simp [go_sem]), (B1.cell (by show w.heap.size < _; omega)).trans (by simp [go_sem]), (B1.cell (by show w.heap.size + 1 < _; omega)).trans (by simp [go_sem]), (B1.cell (by show w.heap.size + 1 < _; omega)).trans (by simp [go_sem]), ((((Below.refl _ w).alloc (Nat.le_refl _) _).alloc (by simp) _).alloc (by simp; omega) _).trans (B1.mono (by omega)), by omega, by omega⟩
  have hr1 := hide (show Z4 w.heap.size w.heap.size (w.heap.size + 2) w1.drew by
    have z := B1.size
    simp at z
    exact ⟨⟨(B1.cell (by show w.heap.size + 2 < _; omega)).trans (by simp [go_sem]), (B1.cell (by show w.heap.size + 2 < _; omega)).trans (by simp [go_sem]), (B1.cell (by show w.heap.size + 2 < _; omega)).trans (by simp [go_sem]), (B1.cell (by show w.heap.size + 2 < _; omega)).trans (by simp [go_sem])⟩, by omega, by omega, by show _ < w1.heap.size; omega, fun o => (B1.frozen (by show w.heap.size + 2 < _; omega)).trans (by simp [go_sem])⟩)
  clear B1
  go_wp2
  clear hc1 hf1
  refine wp_region_held_drew (S := S2 w w.heap.size w.heap.size (al) (ah) (0) (bh)) (by kernel_rfl) (by exact S2.drew hs1) (fun hHeld => ?_)
  refine wpAnyH_take (i := 0) (oi := { dst := some 14, op := Op.load 25 (Operand.tmp 2), type := 25, pos := "l02_intervals.go:110", after := #[], guard := none }) (v := ?_) rfl (by kernel_rfl) (by kernel_rfl) (by kernel_rfl) (fun _ _ _ h => h) (Or.inl ⟨by rfl, ?_⟩) (by assumption) ?_
  rotate_left
  · (intro w hSw; (try dsimp only at hSw); go_simp; try with_reducible rfl)
  try simp only [Act.put, List.setIfInBounds_toArray, List.set_cons_zero, List.set_cons_succ]
  refine wpAnyH_take (i := 1) (oi := { dst := some 15, op := Op.load 25 (Operand.tmp 3), type := 25, pos := "l02_intervals.go:110", after := #[], guard := none }) (v := ?_) rfl (by kernel_rfl) (by kernel_rfl) (by kernel_rfl) (fun _ _ _ h => h) (Or.inl ⟨by rfl, ?_⟩) (by assumption) ?_
  rotate_left
  · (intro w hSw; (try dsimp only at hSw); go_simp; try with_reducible rfl)
  try simp only [Act.put, List.setIfInBounds_toArray, List.set_cons_zero, List.set_cons_succ]
  refine wpAnyH_take (i := 3) (oi := { dst := some 17, op := Op.load 25 (Operand.tmp 3), type := 25, pos := "l02_intervals.go:110", after := #[], guard := none }) (v := ?_) rfl (by kernel_rfl) (by kernel_rfl) (by kernel_rfl) (fun _ _ _ h => h) (Or.inl ⟨by rfl, ?_⟩) (by assumption) ?_
  rotate_left
  · (intro w hSw; (try dsimp only at hSw); go_simp; try with_reducible rfl)
  try simp only [Act.put, List.setIfInBounds_toArray, List.set_cons_zero, List.set_cons_succ]
  refine wpAnyH_ready (rs := [2]) (by kernel_rfl) (by simp) ?_
  refine AllReadyH.cons (i := 2) (o := { dst := some 16, op := Op.call { callee := Callee.value (Operand.func 54), args := #[Operand.tmp 14, Operand.tmp 15], argTypes := #[25, 25] }, type := 25, pos := "l02_intervals.go:110", after := #[{ on := 0, ground := Ground.data }, { on := 1, ground := Ground.data }], guard := none }) rfl (fun K hK => ?_) AllReadyH.nil
  go_simp
  (refine (restsOf_c _ _ _ _ (unhide HI).1 (unhide HI).2.1 (unhide HI).2.2 _).mono ?_; rintro e w2 ⟨rfl, hb⟩; have hr2 := hide (Z4.call hb (unhide hr1)))
  refine hK.out _ _ (S2.call hb (by assumption)) (fun hHeld => ?_)
  clear hK K
  try simp only [Act.put, List.setIfInBounds_toArray, List.set_cons_zero, List.set_cons_succ]
  refine wpAnyH_ready (rs := [4]) (by kernel_rfl) (by simp) ?_
  refine AllReadyH.cons (i := 4) (o := { dst := some 18, op := Op.call { callee := Callee.value (Operand.func 50), args := #[Operand.tmp 17], argTypes := #[25] }, type := 2, pos := "l02_intervals.go:110", after := #[{ on := 3, ground := Ground.data }, { on := 2, ground := Ground.chain }], guard := none }) rfl (fun K hK => ?_) AllReadyH.nil
  go_simp
  (refine (divAlarm_c _ _ _).mono ?_; rintro e w3 ⟨rfl, hb⟩; have hr3 := hide (Z4.call hb (unhide hr2)))
  refine hK.out _ _ (S2.call hb (by assumption)) (fun hHeld => ?_)
  clear hK K
  try simp only [Act.put, List.setIfInBounds_toArray, List.set_cons_zero, List.set_cons_succ]
  refine wpAnyH_take (i := 5) (oi := { dst := some 19, op := Op.build 30 #[(0, Operand.tmp 16), (1, Operand.const (Value.bool true)), (2, Operand.tmp 18)], type := 30, pos := "l02_intervals.go:110", after := #[{ on := 2, ground := Ground.data }, { on := 4, ground := Ground.data }], guard := none }) (v := ?_) rfl (by kernel_rfl) (by kernel_rfl) (by kernel_rfl) (fun _ _ _ h => h) (Or.inl ⟨by rfl, ?_⟩) (by assumption) ?_
  rotate_left
  · (intro w hSw; (try dsimp only at hSw); go_simp; try with_reducible rfl)
  try simp only [Act.put, List.setIfInBounds_toArray, List.set_cons_zero, List.set_cons_succ]
  have hz3 := unhide hr3
  obtain ⟨⟨c0, c1, c2, c3⟩, _, _, z3, z4⟩ := hz3
  have g0 := z4 0
  have g1 := z4 1
  have g2 := z4 2
  have g3 := z4 3
  have K3 := hide (by assumption : S2 w w.heap.size w.heap.size (al) (ah) (0) (bh) w3).2.2.2.2.1
  refine wpAnyH_ready (rs := [6]) (by kernel_rfl) (by simp) ?_
  refine AllReadyH.cons (i := 6) (o := { dst := none, op := Op.store 30 (Operand.tmp 4) (Operand.tmp 19), type := 0, pos := "l02_intervals.go:110", after := #[{ on := 5, ground := Ground.data }, { on := 4, ground := Ground.chain }, { on := 0, ground := Ground.phase }, { on := 1, ground := Ground.phase }, { on := 2, ground := Ground.phase }, { on := 3, ground := Ground.phase }, { on := 4, ground := Ground.phase }, { on := 5, ground := Ground.phase }], guard := none }) rfl (fun K hK => ?_) AllReadyH.nil
  go_simp
  refine hK.out _ _ (S2.set (S2.set (S2.set (S2.set (by assumption) (by omega) (by omega) _) (by omega) (by omega) _) (by omega) (by omega) _) (by omega) (by omega) _) (fun hHeld => ?_)
  clear hK K
  try simp only [Act.put, List.setIfInBounds_toArray, List.set_cons_zero, List.set_cons_succ]
  refine wpAnyH_done (by kernel_rfl) ?_ _
  go_wp2
  exact bodyPost_ret (v := .agg #[.int .i64 (reL al ah (0) bh), .int .i64 (reH al ah (0) bh), .bool true, .int .i64 (dvA (0) bh)]) (by simp [results, Try.results31, go_sem, *]) rfl ⟨rfl, ((((unhide K3).setCell (by simp; omega) _).setCell (by simp; omega) _).setCell (by simp; omega) _).setCell (by simp; omega) _⟩
theorem IvRem_c (al ah bl bh : Int) (hal : In al) (_ : In ah) (hbl : In bl) (hbh : In bh) (w : World) : Calls Try.prog 31 #[.agg #[.int .i64 al, .int .i64 ah], .agg #[.int .i64 bl, .int .i64 bh]] w fun e w' => e = .returned (.agg #[.int .i64 (remV al ah bl bh).lo, .int .i64 (remV al ah bl bh).hi, .bool (remV al ah bl bh).live, .int .i64 (remV al ah bl bh).al]) ∧ Below w.heap.size w w' := by
  by_cases h : al ≤ ah ∧ bl ≤ bh
  · by_cases h1 : bl = 0
    · subst h1
      by_cases h2 : bh = 0
      · subst h2
        exact rem_zero al ah h.1 w
      · exact rem_ok2 al ah bh hal hbl hbh h h2 w
    · exact rem_ok1 al ah bl bh hal hbl hbh h h1 w
  · exact rem_bad al ah bl bh h w
end Go.Proofs.Ytfnedaidljppnaa
