/- The specification's quotient of two intervals. -/
import Derived.Test.YtfnedaidljppnaaSpG
import Derived.Deep.RegionHeld3
import Derived.Deep.DeepCutAuto
import Derived.Deep.DrawnRows
namespace Go.Proofs.Ytfnedaidljppnaa
open Go.RowKit Go.Iv
set_option linter.unusedSimpArgs false

theorem Z4.to {M B b c : Nat} {w w1 : World} (hb : Below c w w1) (hbc : b < c) (h : Z4 M B b w) : Z4 M B b w1 := by
  obtain ⟨⟨c0, c1, c2, c3⟩, h1, h2, h3, h4⟩ := h
  have := hb.size
  exact ⟨⟨(hb.cell (by exact hbc)).trans c0, (hb.cell (by exact hbc)).trans c1, (hb.cell (by exact hbc)).trans c2, (hb.cell (by exact hbc)).trans c3⟩, h1, h2, by omega, fun o => (hb.frozen (by exact hbc)).trans (h4 o)⟩
/-- A second fresh answer lies behind the first one. -/
theorem Z4.new2 {w : World} {M B b : Nat} (h : Z4 M B b w) (t : TypeId) : Z4 (b + 1) B w.heap.size (w.alloc (.cells #[.int .i64 0, .int .i64 0, .bool false, .int .i64 0] t)) :=
  ⟨⟨by simp, by simp, by simp, by simp⟩, by have := h.2.1; have := h.2.2.2.1; omega, by have := h.2.2.2.1; omega, by simp, fun o => by simp [go_sem]⟩
/-- Behind the region: the box's answer lies in a block of its own, the two pairs and the fresh answer as they were. -/
def QC (w : World) (al ah bl bh : Int) (U : V) (p : Value) (wc : World) : Prop :=
  ∃ b, p = .pointer (some ⟨b, 0, none⟩) ∧ (wc.cell? ⟨b, 0, none⟩ = some (.int .i64 U.lo) ∧ wc.cell? ⟨b, 1, none⟩ = some (.int .i64 U.hi) ∧ wc.cell? ⟨b, 2, none⟩ = some (.bool U.live) ∧ wc.cell? ⟨b, 3, none⟩ = some (.int .i64 U.al)) ∧ w.heap.size + 2 < b ∧ b < wc.heap.size ∧ (∀ o, wc.frozen? ⟨b, o, none⟩ = false) ∧ S2 w w.heap.size w.heap.size al ah bl bh wc ∧ Z4 w.heap.size w.heap.size (w.heap.size + 2) wc
theorem QC.ofZ {w wc : World} {al ah bl bh : Int} {U : V} {b : Nat} (hk : S2 w w.heap.size w.heap.size al ah bl bh wc) (hr : Z4 w.heap.size w.heap.size (w.heap.size + 2) wc) (z : Z4 (w.heap.size + 2 + 1) w.heap.size b wc) :
    QC w al ah bl bh U (.pointer (some ⟨b, 0, none⟩)) ((((wc.setCell ⟨b, 0, none⟩ (.int .i64 U.lo)).setCell ⟨b, 1, none⟩ (.int .i64 U.hi)).setCell ⟨b, 2, none⟩ (.bool U.live)).setCell ⟨b, 3, none⟩ (.int .i64 U.al)) := by
  obtain ⟨⟨c0, c1, c2, c3⟩, z1, z2, z3, z4⟩ := z
  have hs := set4_at (x := .int .i64 U.lo) (y := .int .i64 U.hi) (z := .bool U.live) (u := .int .i64 U.al) c0 c1 c2 c3
  have k : Below b wc ((((wc.setCell ⟨b, 0, none⟩ (.int .i64 U.lo)).setCell ⟨b, 1, none⟩ (.int .i64 U.hi)).setCell ⟨b, 2, none⟩ (.bool U.live)).setCell ⟨b, 3, none⟩ (.int .i64 U.al)) :=
    ((((Below.refl b wc).setCell (p := ⟨b, 0, none⟩) (Nat.le_refl _) _).setCell (p := ⟨b, 1, none⟩) (Nat.le_refl _) _).setCell (p := ⟨b, 2, none⟩) (Nat.le_refl _) _).setCell (p := ⟨b, 3, none⟩) (Nat.le_refl _) _
  exact ⟨b, rfl, ⟨hs.1, hs.2.1, hs.2.2.1, hs.2.2.2.1⟩, by omega, hs.2.2.2.2, fun o => by rw [World.frozen?_setCell, World.frozen?_setCell, World.frozen?_setCell, World.frozen?_setCell]; exact z4 o, S2.set (S2.set (S2.set (S2.set hk z1 (by omega) _) z1 (by omega) _) z1 (by omega) _) z1 (by omega) _, Z4.to k (by omega) hr⟩

set_option maxHeartbeats 4000000 in
set_option maxRecDepth 100000 in
theorem sQuo_ok (al ah bl bh : Int) (w : World) (hal : In al) (hah : In ah) (hbl : In bl) (hbh : In bh) (h1 : al ≤ ah) (h2 : bl ≤ bh) : Calls Try.prog 30 #[.agg #[.int .i64 al, .int .i64 ah], .agg #[.int .i64 bl, .int .i64 bh]] w fun e w' => e = .returned (.agg #[.int .i64 (quoV al ah bl bh).lo, .int .i64 (quoV al ah bl bh).hi, .bool (quoV al ah bl bh).live, .int .i64 (quoV al ah bl bh).al]) ∧ Below w.heap.size w w' := by
  obtain ⟨V, hV⟩ : ∃ V, V = quoV al ah bl bh := ⟨_, rfl⟩
  rw [← hV]
  obtain ⟨U, hU⟩ : ∃ U, U = spanL (quoL al ah bl bh) := ⟨_, rfl⟩
  have eV : V = { U with al := bits .or .i64 U.al (dvA bl bh) } := by rw [hV, hU]; unfold quoV; rw [if_pos ⟨h1, h2⟩]
  have HV := hide (show U.lo = V.lo ∧ U.hi = V.hi ∧ U.live = V.live ∧ bits .or .i64 U.al (dvA bl bh) = V.al by rw [eV]; exact ⟨rfl, rfl, rfl, rfl⟩)
  have UA := hide (show U.al = 0 ∨ U.al = 4 by rw [hU]; exact spanL_al _)
  have HU := hide (show spanL (corL (fun x y => x.tdiv y) al ah (partsL bl bh)) = U by rw [hU]; exact spanL_quo al ah bl bh)
  have e1 : okB al ah = true := decide_eq_true h1
  have e2 : okB bl bh = true := decide_eq_true h2
  have HI := hide (And.intro hal (And.intro hah (And.intro hbl hbh)))
  clear hV hU eV h1 h2 hal hah hbl hbh
  go_enter Try.func30, Try.ntmps30
  go_wp2_with fail
  refine (sIvOk_c _ _ _).mono ?_
  rintro e w1 ⟨rfl, hb1⟩
  have B1 := hb1.mono (show w.heap.size + 3 ≤ _ by simp)
  clear hb1
  obtain ⟨hc1, hf1⟩ := bcellB B1
  have HB1 := hide B1
  clear B1
  go_wp2_with fail
  refine (sIvOk_c _ _ _).mono ?_
  rintro e w2 ⟨rfl, hb2⟩
  have B2 := (unhide HB1).trans (hb2.mono (by have := (unhide HB1).size; simp at this; omega))
  clear hb2 hc1 hf1 HB1
  have hs0 : S2 w w.heap.size w.heap.size al ah bl bh w2 := by
    have z := B2.size
    simp at z
    exact ⟨(B2.cell (by show w.heap.size < _; omega)).trans (by simp [go_sem]), (B2.cell (by show w.heap.size < _; omega)).trans (by simp [go_sem]), (B2.cell (by show w.heap.size + 1 < _; omega)).trans (by simp [go_sem]), (B2.cell (by show w.heap.size + 1 < _; omega)).trans (by simp [go_sem]), ((((Below.refl _ w).alloc (Nat.le_refl _) _).alloc (by simp) _).alloc (by simp; omega) _).trans (B2.mono (by omega)), by omega, by omega⟩
  have hr : Z4 w.heap.size w.heap.size (w.heap.size + 2) w2 := by
    have z := B2.size
    simp at z
    exact ⟨⟨(B2.cell (by show w.heap.size + 2 < _; omega)).trans (by simp [go_sem]), (B2.cell (by show w.heap.size + 2 < _; omega)).trans (by simp [go_sem]), (B2.cell (by show w.heap.size + 2 < _; omega)).trans (by simp [go_sem]), (B2.cell (by show w.heap.size + 2 < _; omega)).trans (by simp [go_sem])⟩, by omega, by omega, by omega, fun o => (B2.frozen (by show w.heap.size + 2 < _; omega)).trans (by simp [go_sem])⟩
  clear B2
  go_wp2_with fail
  go_cut [5] (fun p wc => QC w al ah bl bh U p wc)
  case first =>
    have hk0 := hide (S2.drew hs0)
    have hr0 := hide (show Z4 w.heap.size w.heap.size (w.heap.size + 2) w2.drew from hr)
    clear hs0 hr
    obtain ⟨wz0, hw0⟩ : ∃ x, x = w2.drew := ⟨_, rfl⟩
    rw [← hw0] at hk0 hr0
    refine wp_region_held_drew (S := S2 w w.heap.size w.heap.size al ah bl bh) (by kernel_rfl) (by rw [← hw0]; exact unhide hk0) (fun hHeld => ?_)
    rw [← hw0] at hHeld ⊢
    clear hw0
    refine wpAnyH_take (i := 0) (oi := { dst := some 15, op := Op.load 25 (Operand.tmp 2), type := 25, pos := "l02_intervals.go:148", after := #[], guard := none }) (v := ?_) rfl (by kernel_rfl) (by kernel_rfl) (by kernel_rfl) (fun _ _ _ h => h) (Or.inl ⟨by rfl, ?_⟩) (by assumption) ?_
    rotate_left
    · (intro w hSw; (try dsimp only at hSw); go_simp; try with_reducible rfl)
    try simp only [Act.put, List.setIfInBounds_toArray, List.set_cons_zero, List.set_cons_succ]
    refine wpAnyH_take (i := 1) (oi := { dst := some 16, op := Op.load 25 (Operand.tmp 3), type := 25, pos := "l02_intervals.go:148", after := #[], guard := none }) (v := ?_) rfl (by kernel_rfl) (by kernel_rfl) (by kernel_rfl) (fun _ _ _ h => h) (Or.inl ⟨by rfl, ?_⟩) (by assumption) ?_
    rotate_left
    · (intro w hSw; (try dsimp only at hSw); go_simp; try with_reducible rfl)
    try simp only [Act.put, List.setIfInBounds_toArray, List.set_cons_zero, List.set_cons_succ]
    refine wpAnyH_ready (rs := [2, 4]) (by kernel_rfl) (by simp) ?_
    refine AllReadyH.cons (i := 2) (o := { dst := some 17, op := Op.call { callee := Callee.value (Operand.func 52), args := #[Operand.tmp 16], argTypes := #[25] }, type := 64, pos := "l02_intervals.go:148", after := #[{ on := 1, ground := Ground.data }], guard := none }) rfl (fun K hK => ?_) (AllReadyH.cons (i := 4) (o := { dst := some 5, op := Op.alloc 30, type := 0, pos := "l02_intervals.go:148", after := #[], guard := none }) rfl (fun K hK => ?_) AllReadyH.nil)
    · go_simp
      refine (l2Parts_c _ _ _).mono ?_
      rintro e wz1 ⟨pv, rfl, hpr⟩
      have hb1 := hpr.2.2.2.1
      have HPR := hide hpr
      have HPB := hide (Below.refl wz1.heap.size wz1)
      clear hpr
      have hk1 := hide (S2.call hb1 (unhide hk0))
      have hr1 := hide (Z4.call hb1 (unhide hr0))
      clear hb1 hr0
      refine hK.out _ _ (unhide hk1) (fun hHeld => ?_)
      clear hK K
      try simp only [Act.put, List.setIfInBounds_toArray, List.set_cons_zero, List.set_cons_succ]
      refine wpAnyH_ready (rs := [3, 4]) (by kernel_rfl) (by simp) ?_
      refine AllReadyH.cons (i := 3) (o := { dst := some 18, op := Op.call { callee := Callee.value (Operand.func 51), args := #[Operand.const (Value.int IntKind.i64 47), Operand.tmp 15, Operand.tmp 17], argTypes := #[2, 25, 64] }, type := 30, pos := "l02_intervals.go:148", after := #[{ on := 0, ground := Ground.data }, { on := 2, ground := Ground.data }, { on := 2, ground := Ground.chain }], guard := none }) rfl (fun K hK => ?_) (AllReadyH.cons (i := 4) (o := { dst := some 5, op := Op.alloc 30, type := 0, pos := "l02_intervals.go:148", after := #[], guard := none }) rfl (fun K hK => ?_) AllReadyH.nil)
      · go_simp
        refine (boxP _ _ _ _ (unhide HPR) (unhide HPB) (unhide HI).1 (unhide HI).2.1 (unhide HI).2.2.1 (unhide HI).2.2.2).mono ?_
        rintro e wz2 ⟨rfl, hb2⟩
        rw [unhide HU]
        clear HPR HPB
        have hk2 := hide (S2.call hb2 (unhide hk1))
        have hr2 := hide (Z4.call hb2 (unhide hr1))
        clear hb2 hr1
        refine hK.out _ _ (unhide hk2) (fun hHeld => ?_)
        clear hK K
        try simp only [Act.put, List.setIfInBounds_toArray, List.set_cons_zero, List.set_cons_succ]
        refine wpAnyH_ready (rs := [4]) (by kernel_rfl) (by simp) ?_
        refine AllReadyH.cons (i := 4) (o := { dst := some 5, op := Op.alloc 30, type := 0, pos := "l02_intervals.go:148", after := #[], guard := none }) rfl (fun K hK => ?_) AllReadyH.nil
        have hz3 := hide (Z4.new2 (unhide hr2) 30)
        have hk3 := hide (S2.alloc (unhide hk2) (Obj.cells #[.int .i64 0, .int .i64 0, .bool false, .int .i64 0] 30))
        have hr3 := hide (Z4.call ((Below.refl _ _).alloc (Nat.le_refl _) (Obj.cells #[.int .i64 0, .int .i64 0, .bool false, .int .i64 0] 30)) (unhide hr2))
        go_simp
        refine hK.out _ _ (unhide hk3) (fun hHeld => ?_)
        clear hK K
        try simp only [Act.put, List.setIfInBounds_toArray, List.set_cons_zero, List.set_cons_succ]
        clear hHeld
        generalize hg : wz2.alloc (Obj.cells #[.int .i64 0, .int .i64 0, .bool false, .int .i64 0] 30) = wz3 at hz3 hk3 hr3 ⊢
        clear hg hk2 hr2
        have hHeld := unhide hk3
        generalize wz2.heap.size = bz at hz3 ⊢
        refine wpAnyH_ready (rs := [5]) (by kernel_rfl) (by simp) ?_
        refine AllReadyH.cons (i := 5) (o := { dst := none, op := Op.store 30 (Operand.tmp 5) (Operand.tmp 18), type := 0, pos := "l02_intervals.go:148", after := #[{ on := 4, ground := Ground.data }, { on := 3, ground := Ground.data }, { on := 3, ground := Ground.chain }, { on := 0, ground := Ground.phase }, { on := 1, ground := Ground.phase }, { on := 2, ground := Ground.phase }, { on := 3, ground := Ground.phase }, { on := 4, ground := Ground.phase }], guard := none }) rfl (fun K hK => ?_) AllReadyH.nil
        have hz := unhide hz3
        obtain ⟨⟨c0, c1, c2, c3⟩, z1, z2, z3, z4⟩ := hz
        go_simp
        refine hK.out _ _ ?_ (fun hHeld => ?_)
        · exact S2.set (S2.set (S2.set (S2.set (unhide hk3) z1 (by omega) _) z1 (by omega) _) z1 (by omega) _) z1 (by omega) _
        clear hK K c0 c1 c2 c3 z4 hHeld
        try simp only [Act.put, List.setIfInBounds_toArray, List.set_cons_zero, List.set_cons_succ]
        refine wpAnyH_done (by kernel_rfl) ?_ _
        go_wp2_with fail
        go_meet
        exact QC.ofZ (U := U) (unhide hk3) (unhide hr3) (unhide hz3)
      · have hz2 := hide (Z4.new2 (unhide hr1) 30)
        have hk2 := hide (S2.alloc (unhide hk1) (Obj.cells #[.int .i64 0, .int .i64 0, .bool false, .int .i64 0] 30))
        have hr2 := hide (Z4.call ((Below.refl _ _).alloc (Nat.le_refl _) (Obj.cells #[.int .i64 0, .int .i64 0, .bool false, .int .i64 0] 30)) (unhide hr1))
        have HPC := hide ((unhide HPB).alloc (unhide HPB).size (Obj.cells #[.int .i64 0, .int .i64 0, .bool false, .int .i64 0] 30))
        go_simp
        refine hK.out _ _ (unhide hk2) (fun hHeld => ?_)
        clear hK K
        try simp only [Act.put, List.setIfInBounds_toArray, List.set_cons_zero, List.set_cons_succ]
        clear hHeld
        clear HPB
        generalize hg : wz1.alloc (Obj.cells #[.int .i64 0, .int .i64 0, .bool false, .int .i64 0] 30) = wz2 at hz2 hk2 hr2 HPC ⊢
        clear hg hk1 hr1
        have hHeld := unhide hk2
        have HPB := HPC
        clear HPC
        obtain ⟨bz, hbz⟩ : ∃ bz, bz = wz1.heap.size := ⟨_, rfl⟩
        rw [← hbz] at hz2 ⊢
        clear hbz
        refine wpAnyH_ready (rs := [3]) (by kernel_rfl) (by simp) ?_
        refine AllReadyH.cons (i := 3) (o := { dst := some 18, op := Op.call { callee := Callee.value (Operand.func 51), args := #[Operand.const (Value.int IntKind.i64 47), Operand.tmp 15, Operand.tmp 17], argTypes := #[2, 25, 64] }, type := 30, pos := "l02_intervals.go:148", after := #[{ on := 0, ground := Ground.data }, { on := 2, ground := Ground.data }, { on := 2, ground := Ground.chain }], guard := none }) rfl (fun K hK => ?_) AllReadyH.nil
        go_simp
        refine (boxP _ _ _ _ (unhide HPR) (unhide HPB) (unhide HI).1 (unhide HI).2.1 (unhide HI).2.2.1 (unhide HI).2.2.2).mono ?_
        rintro e wz3 ⟨rfl, hb3⟩
        rw [unhide HU]
        clear HPR HPB
        have hk3 := hide (S2.call hb3 (unhide hk2))
        have hr3 := hide (Z4.call hb3 (unhide hr2))
        have hz3 := hide (Z4.call hb3 (unhide hz2))
        clear hb3 hr2 hz2
        refine hK.out _ _ (unhide hk3) (fun hHeld => ?_)
        clear hK K
        try simp only [Act.put, List.setIfInBounds_toArray, List.set_cons_zero, List.set_cons_succ]
        refine wpAnyH_ready (rs := [5]) (by kernel_rfl) (by simp) ?_
        refine AllReadyH.cons (i := 5) (o := { dst := none, op := Op.store 30 (Operand.tmp 5) (Operand.tmp 18), type := 0, pos := "l02_intervals.go:148", after := #[{ on := 4, ground := Ground.data }, { on := 3, ground := Ground.data }, { on := 3, ground := Ground.chain }, { on := 0, ground := Ground.phase }, { on := 1, ground := Ground.phase }, { on := 2, ground := Ground.phase }, { on := 3, ground := Ground.phase }, { on := 4, ground := Ground.phase }], guard := none }) rfl (fun K hK => ?_) AllReadyH.nil
        have hz := unhide hz3
        obtain ⟨⟨c0, c1, c2, c3⟩, z1, z2, z3, z4⟩ := hz
        go_simp
        refine hK.out _ _ ?_ (fun hHeld => ?_)
        · exact S2.set (S2.set (S2.set (S2.set (unhide hk3) z1 (by omega) _) z1 (by omega) _) z1 (by omega) _) z1 (by omega) _
        clear hK K c0 c1 c2 c3 z4 hHeld
        try simp only [Act.put, List.setIfInBounds_toArray, List.set_cons_zero, List.set_cons_succ]
        refine wpAnyH_done (by kernel_rfl) ?_ _
        go_wp2_with fail
        go_meet
        exact QC.ofZ (U := U) (unhide hk3) (unhide hr3) (unhide hz3)
    · have hz1 := hide (Z4.new2 (unhide hr0) 30)
      have hk1 := hide (S2.alloc (unhide hk0) (Obj.cells #[.int .i64 0, .int .i64 0, .bool false, .int .i64 0] 30))
      have hr1 := hide (Z4.call ((Below.refl _ _).alloc (Nat.le_refl _) (Obj.cells #[.int .i64 0, .int .i64 0, .bool false, .int .i64 0] 30)) (unhide hr0))
      go_simp
      refine hK.out _ _ (unhide hk1) (fun hHeld => ?_)
      clear hK K
      try simp only [Act.put, List.setIfInBounds_toArray, List.set_cons_zero, List.set_cons_succ]
      clear hHeld
      generalize hg : wz0.alloc (Obj.cells #[.int .i64 0, .int .i64 0, .bool false, .int .i64 0] 30) = wz1 at hz1 hk1 hr1 ⊢
      clear hg hk0 hr0
      have hHeld := unhide hk1
      generalize wz0.heap.size = bz at hz1 ⊢
      refine wpAnyH_ready (rs := [2]) (by kernel_rfl) (by simp) ?_
      refine AllReadyH.cons (i := 2) (o := { dst := some 17, op := Op.call { callee := Callee.value (Operand.func 52), args := #[Operand.tmp 16], argTypes := #[25] }, type := 64, pos := "l02_intervals.go:148", after := #[{ on := 1, ground := Ground.data }], guard := none }) rfl (fun K hK => ?_) AllReadyH.nil
      go_simp
      refine (l2Parts_c _ _ _).mono ?_
      rintro e wz2 ⟨pv, rfl, hpr⟩
      have hb2 := hpr.2.2.2.1
      have HPR := hide hpr
      have HPB := hide (Below.refl wz2.heap.size wz2)
      clear hpr
      have hk2 := hide (S2.call hb2 (unhide hk1))
      have hr2 := hide (Z4.call hb2 (unhide hr1))
      have hz2 := hide (Z4.call hb2 (unhide hz1))
      clear hb2 hr1 hz1
      refine hK.out _ _ (unhide hk2) (fun hHeld => ?_)
      clear hK K
      try simp only [Act.put, List.setIfInBounds_toArray, List.set_cons_zero, List.set_cons_succ]
      refine wpAnyH_ready (rs := [3]) (by kernel_rfl) (by simp) ?_
      refine AllReadyH.cons (i := 3) (o := { dst := some 18, op := Op.call { callee := Callee.value (Operand.func 51), args := #[Operand.const (Value.int IntKind.i64 47), Operand.tmp 15, Operand.tmp 17], argTypes := #[2, 25, 64] }, type := 30, pos := "l02_intervals.go:148", after := #[{ on := 0, ground := Ground.data }, { on := 2, ground := Ground.data }, { on := 2, ground := Ground.chain }], guard := none }) rfl (fun K hK => ?_) AllReadyH.nil
      go_simp
      refine (boxP _ _ _ _ (unhide HPR) (unhide HPB) (unhide HI).1 (unhide HI).2.1 (unhide HI).2.2.1 (unhide HI).2.2.2).mono ?_
      rintro e wz3 ⟨rfl, hb3⟩
      rw [unhide HU]
      clear HPR HPB
      have hk3 := hide (S2.call hb3 (unhide hk2))
      have hr3 := hide (Z4.call hb3 (unhide hr2))
      have hz3 := hide (Z4.call hb3 (unhide hz2))
      clear hb3 hr2 hz2
      refine hK.out _ _ (unhide hk3) (fun hHeld => ?_)
      clear hK K
      try simp only [Act.put, List.setIfInBounds_toArray, List.set_cons_zero, List.set_cons_succ]
      refine wpAnyH_ready (rs := [5]) (by kernel_rfl) (by simp) ?_
      refine AllReadyH.cons (i := 5) (o := { dst := none, op := Op.store 30 (Operand.tmp 5) (Operand.tmp 18), type := 0, pos := "l02_intervals.go:148", after := #[{ on := 4, ground := Ground.data }, { on := 3, ground := Ground.data }, { on := 3, ground := Ground.chain }, { on := 0, ground := Ground.phase }, { on := 1, ground := Ground.phase }, { on := 2, ground := Ground.phase }, { on := 3, ground := Ground.phase }, { on := 4, ground := Ground.phase }], guard := none }) rfl (fun K hK => ?_) AllReadyH.nil
      have hz := unhide hz3
      obtain ⟨⟨c0, c1, c2, c3⟩, z1, z2, z3, z4⟩ := hz
      go_simp
      refine hK.out _ _ ?_ (fun hHeld => ?_)
      · exact S2.set (S2.set (S2.set (S2.set (unhide hk3) z1 (by omega) _) z1 (by omega) _) z1 (by omega) _) z1 (by omega) _
      clear hK K c0 c1 c2 c3 z4 hHeld
      try simp only [Act.put, List.setIfInBounds_toArray, List.set_cons_zero, List.set_cons_succ]
      refine wpAnyH_done (by kernel_rfl) ?_ _
      go_wp2_with fail
      go_meet
      exact QC.ofZ (U := U) (unhide hk3) (unhide hr3) (unhide hz3)
  case rest =>
  clear hs0 hr
  obtain ⟨b, rfl, ⟨d0, d1, d2, d3⟩, hb3, hbs, hfz, hs1, hr1⟩ := hcut
  have D := hide (And.intro d0 (And.intro d1 (And.intro d2 d3)))
  clear d0 d1 d2 d3
  have HF := hide hfz
  clear hfz
  have p0 := hs1.2.2.1
  have p1 := hs1.2.2.2.1
  have K1 := hide hs1.2.2.2.2.1
  have R1 := hide hr1
  clear hs1 hr1
  go_wp2_with fail
  refine (sIvHas_c _ _ _ _).mono ?_
  rintro e w4 ⟨rfl, hb4⟩
  have q0 : w4.cell? ⟨b, 0, none⟩ = some (.int .i64 U.lo) := (hb4.cell (by exact hbs)).trans (unhide D).1
  have q1 : w4.cell? ⟨b, 1, none⟩ = some (.int .i64 U.hi) := (hb4.cell (by exact hbs)).trans (unhide D).2.1
  have q2 : w4.cell? ⟨b, 2, none⟩ = some (.bool U.live) := (hb4.cell (by exact hbs)).trans (unhide D).2.2.1
  have q3 : w4.cell? ⟨b, 3, none⟩ = some (.int .i64 U.al) := (hb4.cell (by exact hbs)).trans (unhide D).2.2.2
  have f3 : w4.frozen? ⟨b, 3, none⟩ = false := (hb4.frozen (by exact hbs)).trans ((unhide HF) 3)
  obtain ⟨⟨r0, r1, r2, r3⟩, _, _, r4, r5⟩ := Z4.call hb4 (unhide R1)
  have g0 := r5 0
  have g1 := r5 1
  have g2 := r5 2
  have g3 := r5 3
  have K4 := hide ((unhide K1).trans (hb4.mono (unhide K1).size))
  have ne1 : ¬ w.heap.size + 2 = b := by omega
  have ne2 : ¬ b = w.heap.size + 2 := by omega
  rw [(unhide HV).1] at q0
  rw [(unhide HV).2.1] at q1
  rw [(unhide HV).2.2.1] at q2
  clear hb4 D HF p0 p1 K1 R1 r5
  by_cases hh : hasB bl bh 0 = true
  · have HA := hide (show bits .or .i64 U.al 1 = V.al by rw [← (unhide HV).2.2.2]; unfold dvA; rw [if_pos hh])
    go_wp2
    rw [unhide HA]
    exact bodyPost_ret (v := .agg #[.int .i64 (V).lo, .int .i64 (V).hi, .bool (V).live, .int .i64 (V).al]) (by simp [results, Try.results30, go_sem, *]) rfl ⟨rfl, (((((unhide K4).setCell (by first | (simp; done) | (simp; omega)) _).setCell (by first | (simp; done) | (simp; omega)) _).setCell (by first | (simp; done) | (simp; omega)) _).setCell (by first | (simp; done) | (simp; omega)) _).setCell (by first | (simp; done) | (simp; omega)) _⟩
  · have hh' : hasB bl bh 0 = false := by simpa using hh
    have HA := hide (show U.al = V.al by rw [← (unhide HV).2.2.2]; unfold dvA; rw [if_neg hh]; exact (or_zero _ (unhide UA)).symm)
    rw [unhide HA] at q3
    clear hh
    go_wp2
    exact bodyPost_ret (v := .agg #[.int .i64 (V).lo, .int .i64 (V).hi, .bool (V).live, .int .i64 (V).al]) (by simp [results, Try.results30, go_sem, *]) rfl ⟨rfl, ((((unhide K4).setCell (by first | (simp; done) | (simp; omega)) _).setCell (by first | (simp; done) | (simp; omega)) _).setCell (by first | (simp; done) | (simp; omega)) _).setCell (by first | (simp; done) | (simp; omega)) _⟩
set_option maxHeartbeats 1000000 in
theorem sQuo_bad (al ah bl bh : Int) (w : World) (h : ¬ (al ≤ ah ∧ bl ≤ bh)) : Calls Try.prog 30 #[.agg #[.int .i64 al, .int .i64 ah], .agg #[.int .i64 bl, .int .i64 bh]] w fun e w' => e = .returned (.agg #[.int .i64 (quoV al ah bl bh).lo, .int .i64 (quoV al ah bl bh).hi, .bool (quoV al ah bl bh).live, .int .i64 (quoV al ah bl bh).al]) ∧ Below w.heap.size w w' := by
  have e3 := hide (show quoV al ah bl bh = zeroV by unfold quoV; exact if_neg h)
  rw [unhide e3]
  clear e3
  by_cases h1 : al ≤ ah
  · have e1 : okB al ah = true := decide_eq_true h1
    have e2 : okB bl bh = false := decide_eq_false (fun h2 => h ⟨h1, h2⟩)
    clear h h1
    go_enter Try.func30, Try.ntmps30
    go_wp2_with fail
    refine (sIvOk_c _ _ _).mono ?_
    rintro e w1 ⟨rfl, hb1⟩
    have B1 := hb1.mono (show w.heap.size + 3 ≤ _ by simp)
    clear hb1
    obtain ⟨hc1, hf1⟩ := bcellB B1
    have HB1 := hide B1
    clear B1
    go_wp2_with fail
    refine (sIvOk_c _ _ _).mono ?_
    rintro e w2 ⟨rfl, hb2⟩
    have B2 := (unhide HB1).trans (hb2.mono (by have := (unhide HB1).size; simp at this; omega))
    clear hb2 hc1 hf1 HB1
    obtain ⟨hc2, hf2⟩ := bcellB B2
    have K3 := hide (((((Below.refl _ w).alloc (Nat.le_refl _) _).alloc (by simp) _).alloc (by simp; omega) _).trans (B2.mono (by omega)))
    clear B2
    go_wp2
    exact bodyPost_ret (v := .agg #[.int .i64 0, .int .i64 0, .bool false, .int .i64 0]) (by simp [results, Try.results30, go_sem, hc2]) rfl ⟨rfl, ((((unhide K3).setCell (by simp; omega) _).setCell (by simp; omega) _).setCell (by simp; omega) _).setCell (by simp; omega) _⟩
  · have e1 : okB al ah = false := decide_eq_false h1
    clear h h1
    go_enter Try.func30, Try.ntmps30
    go_wp2_with fail
    refine (sIvOk_c _ _ _).mono ?_
    rintro e w1 ⟨rfl, hb1⟩
    have B1 := hb1.mono (show w.heap.size + 3 ≤ _ by simp)
    clear hb1
    obtain ⟨hc1, hf1⟩ := bcellB B1
    have K3 := hide (((((Below.refl _ w).alloc (Nat.le_refl _) _).alloc (by simp) _).alloc (by simp; omega) _).trans (B1.mono (by omega)))
    clear B1
    go_wp2
    exact bodyPost_ret (v := .agg #[.int .i64 0, .int .i64 0, .bool false, .int .i64 0]) (by simp [results, Try.results30, go_sem, hc1]) rfl ⟨rfl, ((((unhide K3).setCell (by simp; omega) _).setCell (by simp; omega) _).setCell (by simp; omega) _).setCell (by simp; omega) _⟩
theorem sIvQuo_c (al ah bl bh : Int) (hal : In al) (hah : In ah) (hbl : In bl) (hbh : In bh) (w : World) : Calls Try.prog 30 #[.agg #[.int .i64 al, .int .i64 ah], .agg #[.int .i64 bl, .int .i64 bh]] w fun e w' => e = .returned (.agg #[.int .i64 (quoV al ah bl bh).lo, .int .i64 (quoV al ah bl bh).hi, .bool (quoV al ah bl bh).live, .int .i64 (quoV al ah bl bh).al]) ∧ Below w.heap.size w w' := by
  by_cases h : al ≤ ah ∧ bl ≤ bh
  · exact sQuo_ok al ah bl bh w hal hah hbl hbh h.1 h.2
  · exact sQuo_bad al ah bl bh w h
end Go.Proofs.Ytfnedaidljppnaa
