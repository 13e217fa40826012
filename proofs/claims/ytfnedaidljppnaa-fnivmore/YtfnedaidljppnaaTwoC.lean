/- The laws' operations by number. -/
import Derived.Test.YtfnedaidljppnaaSpE
import Derived.Test.YtfnedaidljppnaaSpI
import Derived.Test.YtfnedaidljppnaaRemC
import Derived.Test.YtfnedaidljppnaaTwoD
import Derived.Deep.RegionHeld3
import Derived.Deep.DeepCutAuto
import Derived.Deep.DrawnRows
namespace Go.Proofs.Ytfnedaidljppnaa
open Go.RowKit Go.Iv
set_option linter.unusedSimpArgs false

/-- A second fresh answer beside the first. -/
theorem Z4.alloc {M B b : Nat} {w : World} (h : Z4 M B b w) (o : Obj) : Z4 M B b (w.alloc o) := Z4.call ((Below.refl _ _).alloc (Nat.le_refl _) o) h
theorem Z4.set_far {M B b c o : Nat} {w : World} {v : Value} (h : Z4 M B b w) (hne : c ≠ b) : Z4 M B b (w.setCell ⟨c, o, none⟩ v) := by
  obtain ⟨⟨c0, c1, c2, c3⟩, h1, h2, h3, h4⟩ := h
  have k : ∀ j, (w.setCell ⟨c, o, none⟩ v).cell? ⟨b, j, none⟩ = w.cell? ⟨b, j, none⟩ := fun j => World.cell?_setCell_other _ _ _ _ (fun e => hne (congrArg Addr.block e))
  exact ⟨⟨(k 0).trans c0, (k 1).trans c1, (k 2).trans c2, (k 3).trans c3⟩, h1, h2, by simpa [World.setCell] using h3, fun o => (World.frozen?_setCell _ _ _ _).trans (h4 o)⟩
set_option maxHeartbeats 2000000 in
theorem op0_c (al ah bl bh : Int) (hal : In al) (hah : In ah) (hbl : In bl) (hbh : In bh) (w : World) : Calls Try.prog 10 #[.int .i64 0, .agg #[.int .i64 al, .int .i64 ah], .agg #[.int .i64 bl, .int .i64 bh]] w fun e w' => e = .returned (.tuple #[.agg #[.int .i64 (corV (fun x y => x + y) al ah bl bh).lo, .int .i64 (corV (fun x y => x + y) al ah bl bh).hi, .bool (corV (fun x y => x + y) al ah bl bh).live, .int .i64 (corV (fun x y => x + y) al ah bl bh).al], .agg #[.int .i64 (corV (fun x y => x + y) al ah bl bh).lo, .int .i64 (corV (fun x y => x + y) al ah bl bh).hi, .bool (corV (fun x y => x + y) al ah bl bh).live, .int .i64 (corV (fun x y => x + y) al ah bl bh).al]]) ∧ Below w.heap.size w w' := by
  obtain ⟨V, hV⟩ : ∃ V, V = corV (fun x y => x + y) al ah bl bh := ⟨_, rfl⟩
  rw [← hV]
  have HV := hide hV
  have HI := hide (And.intro hal (And.intro hah (And.intro hbl hbh)))
  clear hV hal hah hbl hbh
  have hs : S2 w w.heap.size w.heap.size al ah bl bh ((((w.alloc (Obj.cells #[.int .i64 al, .int .i64 ah] 25)).alloc (Obj.cells #[.int .i64 bl, .int .i64 bh] 25)).alloc (Obj.cells #[.int .i64 0, .int .i64 0, .bool false, .int .i64 0] 30)).alloc (Obj.cells #[.int .i64 0, .int .i64 0, .bool false, .int .i64 0] 30)) := by
    refine S2.alloc (S2.alloc ⟨by simp, by simp, by simp, by simp, ((Below.refl _ _).alloc (Nat.le_refl _) _).alloc (by simp) _, by simp; omega, by simp⟩ _) _
  have ha := hide (show Z4 w.heap.size w.heap.size (w.heap.size + 1 + 1) ((((w.alloc (Obj.cells #[.int .i64 al, .int .i64 ah] 25)).alloc (Obj.cells #[.int .i64 bl, .int .i64 bh] 25)).alloc (Obj.cells #[.int .i64 0, .int .i64 0, .bool false, .int .i64 0] 30)).alloc (Obj.cells #[.int .i64 0, .int .i64 0, .bool false, .int .i64 0] 30)).drew from
    Z4.alloc ⟨⟨by simp [go_sem], by simp [go_sem], by simp [go_sem], by simp [go_sem]⟩, by omega, by omega, by simp, fun o => by simp [go_sem]⟩ _)
  have hc := hide (show Z4 w.heap.size w.heap.size (w.heap.size + 1 + 1 + 1) ((((w.alloc (Obj.cells #[.int .i64 al, .int .i64 ah] 25)).alloc (Obj.cells #[.int .i64 bl, .int .i64 bh] 25)).alloc (Obj.cells #[.int .i64 0, .int .i64 0, .bool false, .int .i64 0] 30)).alloc (Obj.cells #[.int .i64 0, .int .i64 0, .bool false, .int .i64 0] 30)).drew from
    ⟨⟨by simp [go_sem], by simp [go_sem], by simp [go_sem], by simp [go_sem]⟩, by omega, by omega, by simp, fun o => by simp [go_sem]⟩)
  go_enter Try.func10, Try.ntmps10
  go_wp2_with fail
  generalize (((w.alloc (Obj.cells #[.int .i64 al, .int .i64 ah] 25)).alloc (Obj.cells #[.int .i64 bl, .int .i64 bh] 25)).alloc (Obj.cells #[.int .i64 0, .int .i64 0, .bool false, .int .i64 0] 30)).alloc (Obj.cells #[.int .i64 0, .int .i64 0, .bool false, .int .i64 0] 30) = W at hs ha hc ⊢
  refine wp_region_held_drew (S := S2 w w.heap.size w.heap.size al ah bl bh) (by kernel_rfl) (S2.drew hs) (fun hHeld => ?_)
  refine wpAnyH_take (i := 0) (oi := { dst := some 11, op := Op.load 25 (Operand.tmp 4), type := 25, pos := "laws.go:338", after := #[], guard := none }) (v := ?_) rfl (by kernel_rfl) (by kernel_rfl) (by kernel_rfl) (fun _ _ _ h => h) (Or.inl ⟨by rfl, ?_⟩) (by assumption) ?_
  rotate_left
  · (intro w hSw; (try dsimp only at hSw); go_simp; try with_reducible rfl)
  try simp only [Act.put, List.setIfInBounds_toArray, List.set_cons_zero, List.set_cons_succ]
  refine wpAnyH_take (i := 1) (oi := { dst := some 12, op := Op.load 25 (Operand.tmp 5), type := 25, pos := "laws.go:338", after := #[], guard := none }) (v := ?_) rfl (by kernel_rfl) (by kernel_rfl) (by kernel_rfl) (fun _ _ _ h => h) (Or.inl ⟨by rfl, ?_⟩) (by assumption) ?_
  rotate_left
  · (intro w hSw; (try dsimp only at hSw); go_simp; try with_reducible rfl)
  try simp only [Act.put, List.setIfInBounds_toArray, List.set_cons_zero, List.set_cons_succ]
  refine wpAnyH_take (i := 3) (oi := { dst := some 14, op := Op.load 25 (Operand.tmp 4), type := 25, pos := "laws.go:338", after := #[], guard := none }) (v := ?_) rfl (by kernel_rfl) (by kernel_rfl) (by kernel_rfl) (fun _ _ _ h => h) (Or.inl ⟨by rfl, ?_⟩) (by assumption) ?_
  rotate_left
  · (intro w hSw; (try dsimp only at hSw); go_simp; try with_reducible rfl)
  try simp only [Act.put, List.setIfInBounds_toArray, List.set_cons_zero, List.set_cons_succ]
  refine wpAnyH_take (i := 4) (oi := { dst := some 15, op := Op.load 25 (Operand.tmp 5), type := 25, pos := "laws.go:338", after := #[], guard := none }) (v := ?_) rfl (by kernel_rfl) (by kernel_rfl) (by kernel_rfl) (fun _ _ _ h => h) (Or.inl ⟨by rfl, ?_⟩) (by assumption) ?_
  rotate_left
  · (intro w hSw; (try dsimp only at hSw); go_simp; try with_reducible rfl)
  try simp only [Act.put, List.setIfInBounds_toArray, List.set_cons_zero, List.set_cons_succ]
  refine wpAnyH_ready (rs := [2]) (by kernel_rfl) (by simp) ?_
  refine AllReadyH.cons (i := 2) (o := { dst := some 13, op := Op.call { callee := Callee.value (Operand.func 23), args := #[Operand.tmp 11, Operand.tmp 12], argTypes := #[25, 25] }, type := 30, pos := "laws.go:338", after := #[{ on := 0, ground := Ground.data }, { on := 1, ground := Ground.data }], guard := none }) rfl (fun K hK => ?_) AllReadyH.nil
  go_simp
  refine (IvAdd_c _ _ _ _ (unhide HI).1 (unhide HI).2.1 (unhide HI).2.2.1 (unhide HI).2.2.2 _).mono ?_
  rintro e w1 ⟨rfl, hb⟩
  rw [← unhide HV]
  have ha1 := hide (Z4.call hb (unhide ha))
  have hc1 := hide (Z4.call hb (unhide hc))
  have hk1 := hide (S2.call hb (by assumption : S2 w w.heap.size w.heap.size al ah bl bh W.drew))
  refine hK.out _ _ (unhide hk1) (fun hHeld => ?_)
  clear hK K hb
  try simp only [Act.put, List.setIfInBounds_toArray, List.set_cons_zero, List.set_cons_succ]
  refine wpAnyH_ready (rs := [5]) (by kernel_rfl) (by simp) ?_
  refine AllReadyH.cons (i := 5) (o := { dst := some 16, op := Op.call { callee := Callee.value (Operand.func 24), args := #[Operand.tmp 14, Operand.tmp 15], argTypes := #[25, 25] }, type := 30, pos := "laws.go:338", after := #[{ on := 3, ground := Ground.data }, { on := 4, ground := Ground.data }, { on := 2, ground := Ground.chain }], guard := none }) rfl (fun K hK => ?_) AllReadyH.nil
  go_simp
  refine (sIvAdd_c _ _ _ _ (unhide HI).1 (unhide HI).2.1 (unhide HI).2.2.1 (unhide HI).2.2.2 _).mono ?_
  rintro e w2 ⟨rfl, hb⟩
  rw [← unhide HV]
  have ha2 := hide (Z4.call hb (unhide ha1))
  have hc2 := hide (Z4.call hb (unhide hc1))
  have hk2 := hide (S2.call hb (unhide hk1))
  refine hK.out _ _ (unhide hk2) (fun hHeld => ?_)
  clear hK K hb
  try simp only [Act.put, List.setIfInBounds_toArray, List.set_cons_zero, List.set_cons_succ]
  refine wpAnyH_ready (rs := [6]) (by kernel_rfl) (by simp) ?_
  refine AllReadyH.cons (i := 6) (o := { dst := none, op := Op.store 30 (Operand.tmp 6) (Operand.tmp 13), type := 0, pos := "laws.go:338", after := #[{ on := 2, ground := Ground.data }, { on := 5, ground := Ground.chain }, { on := 0, ground := Ground.phase }, { on := 1, ground := Ground.phase }, { on := 2, ground := Ground.phase }, { on := 3, ground := Ground.textOnly Departure.lateStores }, { on := 4, ground := Ground.textOnly Departure.lateStores }, { on := 5, ground := Ground.textOnly Departure.lateStoresUnsure }], guard := none }) rfl (fun K hK => ?_) AllReadyH.nil
  obtain ⟨⟨c0, c1, c2, c3⟩, z1, z2, z3, z4⟩ := unhide ha2
  go_simp
  refine hK.out _ _ ?_ (fun hHeld => ?_)
  · exact S2.set (S2.set (S2.set (S2.set (unhide hk2) (by omega) (by omega) _) (by omega) (by omega) _) (by omega) (by omega) _) (by omega) (by omega) _
  clear hK K
  try simp only [Act.put, List.setIfInBounds_toArray, List.set_cons_zero, List.set_cons_succ]
  have s4 := set4_at (x := .int .i64 V.lo) (y := .int .i64 V.hi) (z := .bool V.live) (u := .int .i64 V.al) c0 c1 c2 c3
  have hk3 := hide (S2.set (S2.set (S2.set (S2.set (unhide hk2) (by omega) (by omega) (.int .i64 V.lo) (o := 0) (b := w.heap.size + 1 + 1)) (by omega) (by omega) (.int .i64 V.hi) (o := 1) (b := w.heap.size + 1 + 1)) (by omega) (by omega) (.bool V.live) (o := 2) (b := w.heap.size + 1 + 1)) (by omega) (by omega) (.int .i64 V.al) (o := 3) (b := w.heap.size + 1 + 1))
  have hc3 := hide (Z4.set_far (c := w.heap.size + 1 + 1) (o := 3) (v := .int .i64 V.al) (Z4.set_far (c := w.heap.size + 1 + 1) (o := 2) (v := .bool V.live) (Z4.set_far (c := w.heap.size + 1 + 1) (o := 1) (v := .int .i64 V.hi) (Z4.set_far (o := 0) (v := .int .i64 V.lo) (c := w.heap.size + 1 + 1) (unhide hc2) (by omega)) (by omega)) (by omega)) (by omega))
  clear c0 c1 c2 c3 z4 hHeld
  obtain ⟨w3, hw3⟩ : ∃ w3, w3 = (((w2.setCell ⟨w.heap.size + 1 + 1, 0, none⟩ (.int .i64 V.lo)).setCell ⟨w.heap.size + 1 + 1, 1, none⟩ (.int .i64 V.hi)).setCell ⟨w.heap.size + 1 + 1, 2, none⟩ (.bool V.live)).setCell ⟨w.heap.size + 1 + 1, 3, none⟩ (.int .i64 V.al) := ⟨_, rfl⟩
  rw [← hw3] at s4 hk3 hc3 ⊢
  clear hw3
  have hHeld := unhide hk3
  refine wpAnyH_ready (rs := [7]) (by kernel_rfl) (by simp) ?_
  refine AllReadyH.cons (i := 7) (o := { dst := none, op := Op.store 30 (Operand.tmp 7) (Operand.tmp 16), type := 0, pos := "laws.go:338", after := #[{ on := 5, ground := Ground.data }, { on := 6, ground := Ground.chain }, { on := 0, ground := Ground.phase }, { on := 1, ground := Ground.phase }, { on := 2, ground := Ground.phase }, { on := 3, ground := Ground.phase }, { on := 4, ground := Ground.phase }, { on := 5, ground := Ground.phase }, { on := 6, ground := Ground.phase }], guard := none }) rfl (fun K hK => ?_) AllReadyH.nil
  obtain ⟨⟨c0, c1, c2, c3⟩, z1', z2', z3', z4'⟩ := unhide hc3
  have hk4 := hide (unhide hk3).2.2.2.2.1
  go_simp
  refine hK.out _ _ ?_ (fun hHeld => ?_)
  · exact S2.set (S2.set (S2.set (S2.set (unhide hk3) (by omega) (by omega) _) (by omega) (by omega) _) (by omega) (by omega) _) (by omega) (by omega) _
  clear hK K hHeld
  try simp only [Act.put, List.setIfInBounds_toArray, List.set_cons_zero, List.set_cons_succ]
  refine wpAnyH_done (by kernel_rfl) ?_ _
  obtain ⟨y0, y1, y2, y3, y4⟩ := s4
  go_wp2
  exact bodyPost_ret (v := .tuple #[.agg #[.int .i64 (V).lo, .int .i64 (V).hi, .bool (V).live, .int .i64 (V).al], .agg #[.int .i64 (V).lo, .int .i64 (V).hi, .bool (V).live, .int .i64 (V).al]]) (by simp [results, Try.results10, go_sem, y0, y1, y2, y3, c0, c1, c2, c3]) rfl ⟨rfl, ((((unhide hk4).setCell (by first | (simp; done) | (simp; omega)) _).setCell (by first | (simp; done) | (simp; omega)) _).setCell (by first | (simp; done) | (simp; omega)) _).setCell (by first | (simp; done) | (simp; omega)) _⟩
set_option maxHeartbeats 2000000 in
theorem op1_c (al ah bl bh : Int) (hal : In al) (hah : In ah) (hbl : In bl) (hbh : In bh) (w : World) : Calls Try.prog 10 #[.int .i64 1, .agg #[.int .i64 al, .int .i64 ah], .agg #[.int .i64 bl, .int .i64 bh]] w fun e w' => e = .returned (.tuple #[.agg #[.int .i64 (corV (fun x y => x - y) al ah bl bh).lo, .int .i64 (corV (fun x y => x - y) al ah bl bh).hi, .bool (corV (fun x y => x - y) al ah bl bh).live, .int .i64 (corV (fun x y => x - y) al ah bl bh).al], .agg #[.int .i64 (corV (fun x y => x - y) al ah bl bh).lo, .int .i64 (corV (fun x y => x - y) al ah bl bh).hi, .bool (corV (fun x y => x - y) al ah bl bh).live, .int .i64 (corV (fun x y => x - y) al ah bl bh).al]]) ∧ Below w.heap.size w w' := by
  obtain ⟨V, hV⟩ : ∃ V, V = corV (fun x y => x - y) al ah bl bh := ⟨_, rfl⟩
  rw [← hV]
  have HV := hide hV
  have HI := hide (And.intro hal (And.intro hah (And.intro hbl hbh)))
  clear hV hal hah hbl hbh
  have hs : S2 w w.heap.size w.heap.size al ah bl bh ((((w.alloc (Obj.cells #[.int .i64 al, .int .i64 ah] 25)).alloc (Obj.cells #[.int .i64 bl, .int .i64 bh] 25)).alloc (Obj.cells #[.int .i64 0, .int .i64 0, .bool false, .int .i64 0] 30)).alloc (Obj.cells #[.int .i64 0, .int .i64 0, .bool false, .int .i64 0] 30)) := by
    refine S2.alloc (S2.alloc ⟨by simp, by simp, by simp, by simp, ((Below.refl _ _).alloc (Nat.le_refl _) _).alloc (by simp) _, by simp; omega, by simp⟩ _) _
  have ha := hide (show Z4 w.heap.size w.heap.size (w.heap.size + 1 + 1) ((((w.alloc (Obj.cells #[.int .i64 al, .int .i64 ah] 25)).alloc (Obj.cells #[.int .i64 bl, .int .i64 bh] 25)).alloc (Obj.cells #[.int .i64 0, .int .i64 0, .bool false, .int .i64 0] 30)).alloc (Obj.cells #[.int .i64 0, .int .i64 0, .bool false, .int .i64 0] 30)).drew from
    Z4.alloc ⟨⟨by simp [go_sem], by simp [go_sem], by simp [go_sem], by simp [go_sem]⟩, by omega, by omega, by simp, fun o => by simp [go_sem]⟩ _)
  have hc := hide (show Z4 w.heap.size w.heap.size (w.heap.size + 1 + 1 + 1) ((((w.alloc (Obj.cells #[.int .i64 al, .int .i64 ah] 25)).alloc (Obj.cells #[.int .i64 bl, .int .i64 bh] 25)).alloc (Obj.cells #[.int .i64 0, .int .i64 0, .bool false, .int .i64 0] 30)).alloc (Obj.cells #[.int .i64 0, .int .i64 0, .bool false, .int .i64 0] 30)).drew from
    ⟨⟨by simp [go_sem], by simp [go_sem], by simp [go_sem], by simp [go_sem]⟩, by omega, by omega, by simp, fun o => by simp [go_sem]⟩)
  go_enter Try.func10, Try.ntmps10
  go_wp2_with fail
  generalize (((w.alloc (Obj.cells #[.int .i64 al, .int .i64 ah] 25)).alloc (Obj.cells #[.int .i64 bl, .int .i64 bh] 25)).alloc (Obj.cells #[.int .i64 0, .int .i64 0, .bool false, .int .i64 0] 30)).alloc (Obj.cells #[.int .i64 0, .int .i64 0, .bool false, .int .i64 0] 30) = W at hs ha hc ⊢
  refine wp_region_held_drew (S := S2 w w.heap.size w.heap.size al ah bl bh) (by kernel_rfl) (S2.drew hs) (fun hHeld => ?_)
  refine wpAnyH_take (i := 0) (oi := { dst := some 19, op := Op.load 25 (Operand.tmp 4), type := 25, pos := "laws.go:340", after := #[], guard := none }) (v := ?_) rfl (by kernel_rfl) (by kernel_rfl) (by kernel_rfl) (fun _ _ _ h => h) (Or.inl ⟨by rfl, ?_⟩) (by assumption) ?_
  rotate_left
  · (intro w hSw; (try dsimp only at hSw); go_simp; try with_reducible rfl)
  try simp only [Act.put, List.setIfInBounds_toArray, List.set_cons_zero, List.set_cons_succ]
  refine wpAnyH_take (i := 1) (oi := { dst := some 20, op := Op.load 25 (Operand.tmp 5), type := 25, pos := "laws.go:340", after := #[], guard := none }) (v := ?_) rfl (by kernel_rfl) (by kernel_rfl) (by kernel_rfl) (fun _ _ _ h => h) (Or.inl ⟨by rfl, ?_⟩) (by assumption) ?_
  rotate_left
  · (intro w hSw; (try dsimp only at hSw); go_simp; try with_reducible rfl)
  try simp only [Act.put, List.setIfInBounds_toArray, List.set_cons_zero, List.set_cons_succ]
  refine wpAnyH_take (i := 3) (oi := { dst := some 22, op := Op.load 25 (Operand.tmp 4), type := 25, pos := "laws.go:340", after := #[], guard := none }) (v := ?_) rfl (by kernel_rfl) (by kernel_rfl) (by kernel_rfl) (fun _ _ _ h => h) (Or.inl ⟨by rfl, ?_⟩) (by assumption) ?_
  rotate_left
  · (intro w hSw; (try dsimp only at hSw); go_simp; try with_reducible rfl)
  try simp only [Act.put, List.setIfInBounds_toArray, List.set_cons_zero, List.set_cons_succ]
  refine wpAnyH_take (i := 4) (oi := { dst := some 23, op := Op.load 25 (Operand.tmp 5), type := 25, pos := "laws.go:340", after := #[], guard := none }) (v := ?_) rfl (by kernel_rfl) (by kernel_rfl) (by kernel_rfl) (fun _ _ _ h => h) (Or.inl ⟨by rfl, ?_⟩) (by assumption) ?_
  rotate_left
  · (intro w hSw; (try dsimp only at hSw); go_simp; try with_reducible rfl)
  try simp only [Act.put, List.setIfInBounds_toArray, List.set_cons_zero, List.set_cons_succ]
  refine wpAnyH_ready (rs := [2]) (by kernel_rfl) (by simp) ?_
  refine AllReadyH.cons (i := 2) (o := { dst := some 21, op := Op.call { callee := Callee.value (Operand.func 25), args := #[Operand.tmp 19, Operand.tmp 20], argTypes := #[25, 25] }, type := 30, pos := "laws.go:340", after := #[{ on := 0, ground := Ground.data }, { on := 1, ground := Ground.data }], guard := none }) rfl (fun K hK => ?_) AllReadyH.nil
  go_simp
  refine (IvSub_c _ _ _ _ (unhide HI).1 (unhide HI).2.1 (unhide HI).2.2.1 (unhide HI).2.2.2 _).mono ?_
  rintro e w1 ⟨rfl, hb⟩
  rw [← unhide HV]
  have ha1 := hide (Z4.call hb (unhide ha))
  have hc1 := hide (Z4.call hb (unhide hc))
  have hk1 := hide (S2.call hb (by assumption : S2 w w.heap.size w.heap.size al ah bl bh W.drew))
  refine hK.out _ _ (unhide hk1) (fun hHeld => ?_)
  clear hK K hb
  try simp only [Act.put, List.setIfInBounds_toArray, List.set_cons_zero, List.set_cons_succ]
  refine wpAnyH_ready (rs := [5]) (by kernel_rfl) (by simp) ?_
  refine AllReadyH.cons (i := 5) (o := { dst := some 24, op := Op.call { callee := Callee.value (Operand.func 26), args := #[Operand.tmp 22, Operand.tmp 23], argTypes := #[25, 25] }, type := 30, pos := "laws.go:340", after := #[{ on := 3, ground := Ground.data }, { on := 4, ground := Ground.data }, { on := 2, ground := Ground.chain }], guard := none }) rfl (fun K hK => ?_) AllReadyH.nil
  go_simp
  refine (sIvSub_c _ _ _ _ (unhide HI).1 (unhide HI).2.1 (unhide HI).2.2.1 (unhide HI).2.2.2 _).mono ?_
  rintro e w2 ⟨rfl, hb⟩
  rw [← unhide HV]
  have ha2 := hide (Z4.call hb (unhide ha1))
  have hc2 := hide (Z4.call hb (unhide hc1))
  have hk2 := hide (S2.call hb (unhide hk1))
  refine hK.out _ _ (unhide hk2) (fun hHeld => ?_)
  clear hK K hb
  try simp only [Act.put, List.setIfInBounds_toArray, List.set_cons_zero, List.set_cons_succ]
  refine wpAnyH_ready (rs := [6]) (by kernel_rfl) (by simp) ?_
  refine AllReadyH.cons (i := 6) (o := { dst := none, op := Op.store 30 (Operand.tmp 6) (Operand.tmp 21), type := 0, pos := "laws.go:340", after := #[{ on := 2, ground := Ground.data }, { on := 5, ground := Ground.chain }, { on := 0, ground := Ground.phase }, { on := 1, ground := Ground.phase }, { on := 2, ground := Ground.phase }, { on := 3, ground := Ground.textOnly Departure.lateStores }, { on := 4, ground := Ground.textOnly Departure.lateStores }, { on := 5, ground := Ground.textOnly Departure.lateStoresUnsure }], guard := none }) rfl (fun K hK => ?_) AllReadyH.nil
  obtain ⟨⟨c0, c1, c2, c3⟩, z1, z2, z3, z4⟩ := unhide ha2
  go_simp
  refine hK.out _ _ ?_ (fun hHeld => ?_)
  · exact S2.set (S2.set (S2.set (S2.set (unhide hk2) (by omega) (by omega) _) (by omega) (by omega) _) (by omega) (by omega) _) (by omega) (by omega) _
  clear hK K
  try simp only [Act.put, List.setIfInBounds_toArray, List.set_cons_zero, List.set_cons_succ]
  have s4 := set4_at (x := .int .i64 V.lo) (y := .int .i64 V.hi) (z := .bool V.live) (u := .int .i64 V.al) c0 c1 c2 c3
  have hk3 := hide (S2.set (S2.set (S2.set (S2.set (unhide hk2) (by omega) (by omega) (.int .i64 V.lo) (o := 0) (b := w.heap.size + 1 + 1)) (by omega) (by omega) (.int .i64 V.hi) (o := 1) (b := w.heap.size + 1 + 1)) (by omega) (by omega) (.bool V.live) (o := 2) (b := w.heap.size + 1 + 1)) (by omega) (by omega) (.int .i64 V.al) (o := 3) (b := w.heap.size + 1 + 1))
  have hc3 := hide (Z4.set_far (c := w.heap.size + 1 + 1) (o := 3) (v := .int .i64 V.al) (Z4.set_far (c := w.heap.size + 1 + 1) (o := 2) (v := .bool V.live) (Z4.set_far (c := w.heap.size + 1 + 1) (o := 1) (v := .int .i64 V.hi) (Z4.set_far (o := 0) (v := .int .i64 V.lo) (c := w.heap.size + 1 + 1) (unhide hc2) (by omega)) (by omega)) (by omega)) (by omega))
  clear c0 c1 c2 c3 z4 hHeld
  obtain ⟨w3, hw3⟩ : ∃ w3, w3 = (((w2.setCell ⟨w.heap.size + 1 + 1, 0, none⟩ (.int .i64 V.lo)).setCell ⟨w.heap.size + 1 + 1, 1, none⟩ (.int .i64 V.hi)).setCell ⟨w.heap.size + 1 + 1, 2, none⟩ (.bool V.live)).setCell ⟨w.heap.size + 1 + 1, 3, none⟩ (.int .i64 V.al) := ⟨_, rfl⟩
  rw [← hw3] at s4 hk3 hc3 ⊢
  clear hw3
  have hHeld := unhide hk3
  refine wpAnyH_ready (rs := [7]) (by kernel_rfl) (by simp) ?_
  refine AllReadyH.cons (i := 7) (o := { dst := none, op := Op.store 30 (Operand.tmp 7) (Operand.tmp 24), type := 0, pos := "laws.go:340", after := #[{ on := 5, ground := Ground.data }, { on := 6, ground := Ground.chain }, { on := 0, ground := Ground.phase }, { on := 1, ground := Ground.phase }, { on := 2, ground := Ground.phase }, { on := 3, ground := Ground.phase }, { on := 4, ground := Ground.phase }, { on := 5, ground := Ground.phase }, { on := 6, ground := Ground.phase }], guard := none }) rfl (fun K hK => ?_) AllReadyH.nil
  obtain ⟨⟨c0, c1, c2, c3⟩, z1', z2', z3', z4'⟩ := unhide hc3
  have hk4 := hide (unhide hk3).2.2.2.2.1
  go_simp
  refine hK.out _ _ ?_ (fun hHeld => ?_)
  · exact S2.set (S2.set (S2.set (S2.set (unhide hk3) (by omega) (by omega) _) (by omega) (by omega) _) (by omega) (by omega) _) (by omega) (by omega) _
  clear hK K hHeld
  try simp only [Act.put, List.setIfInBounds_toArray, List.set_cons_zero, List.set_cons_succ]
  refine wpAnyH_done (by kernel_rfl) ?_ _
  obtain ⟨y0, y1, y2, y3, y4⟩ := s4
  go_wp2
  exact bodyPost_ret (v := .tuple #[.agg #[.int .i64 (V).lo, .int .i64 (V).hi, .bool (V).live, .int .i64 (V).al], .agg #[.int .i64 (V).lo, .int .i64 (V).hi, .bool (V).live, .int .i64 (V).al]]) (by simp [results, Try.results10, go_sem, y0, y1, y2, y3, c0, c1, c2, c3]) rfl ⟨rfl, ((((unhide hk4).setCell (by first | (simp; done) | (simp; omega)) _).setCell (by first | (simp; done) | (simp; omega)) _).setCell (by first | (simp; done) | (simp; omega)) _).setCell (by first | (simp; done) | (simp; omega)) _⟩
set_option maxHeartbeats 2000000 in
theorem op2_c (al ah bl bh : Int) (hal : In al) (hah : In ah) (hbl : In bl) (hbh : In bh) (w : World) : Calls Try.prog 10 #[.int .i64 2, .agg #[.int .i64 al, .int .i64 ah], .agg #[.int .i64 bl, .int .i64 bh]] w fun e w' => e = .returned (.tuple #[.agg #[.int .i64 (corV (fun x y => x * y) al ah bl bh).lo, .int .i64 (corV (fun x y => x * y) al ah bl bh).hi, .bool (corV (fun x y => x * y) al ah bl bh).live, .int .i64 (corV (fun x y => x * y) al ah bl bh).al], .agg #[.int .i64 (corV (fun x y => x * y) al ah bl bh).lo, .int .i64 (corV (fun x y => x * y) al ah bl bh).hi, .bool (corV (fun x y => x * y) al ah bl bh).live, .int .i64 (corV (fun x y => x * y) al ah bl bh).al]]) ∧ Below w.heap.size w w' := by
  obtain ⟨V, hV⟩ : ∃ V, V = corV (fun x y => x * y) al ah bl bh := ⟨_, rfl⟩
  rw [← hV]
  have HV := hide hV
  have HI := hide (And.intro hal (And.intro hah (And.intro hbl hbh)))
  clear hV hal hah hbl hbh
  have hs : S2 w w.heap.size w.heap.size al ah bl bh ((((w.alloc (Obj.cells #[.int .i64 al, .int .i64 ah] 25)).alloc (Obj.cells #[.int .i64 bl, .int .i64 bh] 25)).alloc (Obj.cells #[.int .i64 0, .int .i64 0, .bool false, .int .i64 0] 30)).alloc (Obj.cells #[.int .i64 0, .int .i64 0, .bool false, .int .i64 0] 30)) := by
    refine S2.alloc (S2.alloc ⟨by simp, by simp, by simp, by simp, ((Below.refl _ _).alloc (Nat.le_refl _) _).alloc (by simp) _, by simp; omega, by simp⟩ _) _
  have ha := hide (show Z4 w.heap.size w.heap.size (w.heap.size + 1 + 1) ((((w.alloc (Obj.cells #[.int .i64 al, .int .i64 ah] 25)).alloc (Obj.cells #[.int .i64 bl, .int .i64 bh] 25)).alloc (Obj.cells #[.int .i64 0, .int .i64 0, .bool false, .int .i64 0] 30)).alloc (Obj.cells #[.int .i64 0, .int .i64 0, .bool false, .int .i64 0] 30)).drew from
    Z4.alloc ⟨⟨by simp [go_sem], by simp [go_sem], by simp [go_sem], by simp [go_sem]⟩, by omega, by omega, by simp, fun o => by simp [go_sem]⟩ _)
  have hc := hide (show Z4 w.heap.size w.heap.size (w.heap.size + 1 + 1 + 1) ((((w.alloc (Obj.cells #[.int .i64 al, .int .i64 ah] 25)).alloc (Obj.cells #[.int .i64 bl, .int .i64 bh] 25)).alloc (Obj.cells #[.int .i64 0, .int .i64 0, .bool false, .int .i64 0] 30)).alloc (Obj.cells #[.int .i64 0, .int .i64 0, .bool false, .int .i64 0] 30)).drew from
    ⟨⟨by simp [go_sem], by simp [go_sem], by simp [go_sem], by simp [go_sem]⟩, by omega, by omega, by simp, fun o => by simp [go_sem]⟩)
  go_enter Try.func10, Try.ntmps10
  go_wp2_with fail
  generalize (((w.alloc (Obj.cells #[.int .i64 al, .int .i64 ah] 25)).alloc (Obj.cells #[.int .i64 bl, .int .i64 bh] 25)).alloc (Obj.cells #[.int .i64 0, .int .i64 0, .bool false, .int .i64 0] 30)).alloc (Obj.cells #[.int .i64 0, .int .i64 0, .bool false, .int .i64 0] 30) = W at hs ha hc ⊢
  refine wp_region_held_drew (S := S2 w w.heap.size w.heap.size al ah bl bh) (by kernel_rfl) (S2.drew hs) (fun hHeld => ?_)
  refine wpAnyH_take (i := 0) (oi := { dst := some 27, op := Op.load 25 (Operand.tmp 4), type := 25, pos := "laws.go:342", after := #[], guard := none }) (v := ?_) rfl (by kernel_rfl) (by kernel_rfl) (by kernel_rfl) (fun _ _ _ h => h) (Or.inl ⟨by rfl, ?_⟩) (by assumption) ?_
  rotate_left
  · (intro w hSw; (try dsimp only at hSw); go_simp; try with_reducible rfl)
  try simp only [Act.put, List.setIfInBounds_toArray, List.set_cons_zero, List.set_cons_succ]
  refine wpAnyH_take (i := 1) (oi := { dst := some 28, op := Op.load 25 (Operand.tmp 5), type := 25, pos := "laws.go:342", after := #[], guard := none }) (v := ?_) rfl (by kernel_rfl) (by kernel_rfl) (by kernel_rfl) (fun _ _ _ h => h) (Or.inl ⟨by rfl, ?_⟩) (by assumption) ?_
  rotate_left
  · (intro w hSw; (try dsimp only at hSw); go_simp; try with_reducible rfl)
  try simp only [Act.put, List.setIfInBounds_toArray, List.set_cons_zero, List.set_cons_succ]
  refine wpAnyH_take (i := 3) (oi := { dst := some 30, op := Op.load 25 (Operand.tmp 4), type := 25, pos := "laws.go:342", after := #[], guard := none }) (v := ?_) rfl (by kernel_rfl) (by kernel_rfl) (by kernel_rfl) (fun _ _ _ h => h) (Or.inl ⟨by rfl, ?_⟩) (by assumption) ?_
  rotate_left
  · (intro w hSw; (try dsimp only at hSw); go_simp; try with_reducible rfl)
  try simp only [Act.put, List.setIfInBounds_toArray, List.set_cons_zero, List.set_cons_succ]
  refine wpAnyH_take (i := 4) (oi := { dst := some 31, op := Op.load 25 (Operand.tmp 5), type := 25, pos := "laws.go:342", after := #[], guard := none }) (v := ?_) rfl (by kernel_rfl) (by kernel_rfl) (by kernel_rfl) (fun _ _ _ h => h) (Or.inl ⟨by rfl, ?_⟩) (by assumption) ?_
  rotate_left
  · (intro w hSw; (try dsimp only at hSw); go_simp; try with_reducible rfl)
  try simp only [Act.put, List.setIfInBounds_toArray, List.set_cons_zero, List.set_cons_succ]
  refine wpAnyH_ready (rs := [2]) (by kernel_rfl) (by simp) ?_
  refine AllReadyH.cons (i := 2) (o := { dst := some 29, op := Op.call { callee := Callee.value (Operand.func 27), args := #[Operand.tmp 27, Operand.tmp 28], argTypes := #[25, 25] }, type := 30, pos := "laws.go:342", after := #[{ on := 0, ground := Ground.data }, { on := 1, ground := Ground.data }], guard := none }) rfl (fun K hK => ?_) AllReadyH.nil
  go_simp
  refine (IvMul_c _ _ _ _ (unhide HI).1 (unhide HI).2.1 (unhide HI).2.2.1 (unhide HI).2.2.2 _).mono ?_
  rintro e w1 ⟨rfl, hb⟩
  rw [← unhide HV]
  have ha1 := hide (Z4.call hb (unhide ha))
  have hc1 := hide (Z4.call hb (unhide hc))
  have hk1 := hide (S2.call hb (by assumption : S2 w w.heap.size w.heap.size al ah bl bh W.drew))
  refine hK.out _ _ (unhide hk1) (fun hHeld => ?_)
  clear hK K hb
  try simp only [Act.put, List.setIfInBounds_toArray, List.set_cons_zero, List.set_cons_succ]
  refine wpAnyH_ready (rs := [5]) (by kernel_rfl) (by simp) ?_
  refine AllReadyH.cons (i := 5) (o := { dst := some 32, op := Op.call { callee := Callee.value (Operand.func 28), args := #[Operand.tmp 30, Operand.tmp 31], argTypes := #[25, 25] }, type := 30, pos := "laws.go:342", after := #[{ on := 3, ground := Ground.data }, { on := 4, ground := Ground.data }, { on := 2, ground := Ground.chain }], guard := none }) rfl (fun K hK => ?_) AllReadyH.nil
  go_simp
  refine (sIvMul_c _ _ _ _ (unhide HI).1 (unhide HI).2.1 (unhide HI).2.2.1 (unhide HI).2.2.2 _).mono ?_
  rintro e w2 ⟨rfl, hb⟩
  rw [← unhide HV]
  have ha2 := hide (Z4.call hb (unhide ha1))
  have hc2 := hide (Z4.call hb (unhide hc1))
  have hk2 := hide (S2.call hb (unhide hk1))
  refine hK.out _ _ (unhide hk2) (fun hHeld => ?_)
  clear hK K hb
  try simp only [Act.put, List.setIfInBounds_toArray, List.set_cons_zero, List.set_cons_succ]
  refine wpAnyH_ready (rs := [6]) (by kernel_rfl) (by simp) ?_
  refine AllReadyH.cons (i := 6) (o := { dst := none, op := Op.store 30 (Operand.tmp 6) (Operand.tmp 29), type := 0, pos := "laws.go:342", after := #[{ on := 2, ground := Ground.data }, { on := 5, ground := Ground.chain }, { on := 0, ground := Ground.phase }, { on := 1, ground := Ground.phase }, { on := 2, ground := Ground.phase }, { on := 3, ground := Ground.textOnly Departure.lateStores }, { on := 4, ground := Ground.textOnly Departure.lateStores }, { on := 5, ground := Ground.textOnly Departure.lateStoresUnsure }], guard := none }) rfl (fun K hK => ?_) AllReadyH.nil
  obtain ⟨⟨c0, c1, c2, c3⟩, z1, z2, z3, z4⟩ := unhide ha2
  go_simp
  refine hK.out _ _ ?_ (fun hHeld => ?_)
  · exact S2.set (S2.set (S2.set (S2.set (unhide hk2) (by omega) (by omega) _) (by omega) (by omega) _) (by omega) (by omega) _) (by omega) (by omega) _
  clear hK K
  try simp only [Act.put, List.setIfInBounds_toArray, List.set_cons_zero, List.set_cons_succ]
  have s4 := set4_at (x := .int .i64 V.lo) (y := .int .i64 V.hi) (z := .bool V.live) (u := .int .i64 V.al) c0 c1 c2 c3
  have hk3 := hide (S2.set (S2.set (S2.set (S2.set (unhide hk2) (by omega) (by omega) (.int .i64 V.lo) (o := 0) (b := w.heap.size + 1 + 1)) (by omega) (by omega) (.int .i64 V.hi) (o := 1) (b := w.heap.size + 1 + 1)) (by omega) (by omega) (.bool V.live) (o := 2) (b := w.heap.size + 1 + 1)) (by omega) (by omega) (.int .i64 V.al) (o := 3) (b := w.heap.size + 1 + 1))
  have hc3 := hide (Z4.set_far (c := w.heap.size + 1 + 1) (o := 3) (v := .int .i64 V.al) (Z4.set_far (c := w.heap.size + 1 + 1) (o := 2) (v := .bool V.live) (Z4.set_far (c := w.heap.size + 1 + 1) (o := 1) (v := .int .i64 V.hi) (Z4.set_far (o := 0) (v := .int .i64 V.lo) (c := w.heap.size + 1 + 1) (unhide hc2) (by omega)) (by omega)) (by omega)) (by omega))
  clear c0 c1 c2 c3 z4 hHeld
  obtain ⟨w3, hw3⟩ : ∃ w3, w3 = (((w2.setCell ⟨w.heap.size + 1 + 1, 0, none⟩ (.int .i64 V.lo)).setCell ⟨w.heap.size + 1 + 1, 1, none⟩ (.int .i64 V.hi)).setCell ⟨w.heap.size + 1 + 1, 2, none⟩ (.bool V.live)).setCell ⟨w.heap.size + 1 + 1, 3, none⟩ (.int .i64 V.al) := ⟨_, rfl⟩
  rw [← hw3] at s4 hk3 hc3 ⊢
  clear hw3
  have hHeld := unhide hk3
  refine wpAnyH_ready (rs := [7]) (by kernel_rfl) (by simp) ?_
  refine AllReadyH.cons (i := 7) (o := { dst := none, op := Op.store 30 (Operand.tmp 7) (Operand.tmp 32), type := 0, pos := "laws.go:342", after := #[{ on := 5, ground := Ground.data }, { on := 6, ground := Ground.chain }, { on := 0, ground := Ground.phase }, { on := 1, ground := Ground.phase }, { on := 2, ground := Ground.phase }, { on := 3, ground := Ground.phase }, { on := 4, ground := Ground.phase }, { on := 5, ground := Ground.phase }, { on := 6, ground := Ground.phase }], guard := none }) rfl (fun K hK => ?_) AllReadyH.nil
  obtain ⟨⟨c0, c1, c2, c3⟩, z1', z2', z3', z4'⟩ := unhide hc3
  have hk4 := hide (unhide hk3).2.2.2.2.1
  go_simp
  refine hK.out _ _ ?_ (fun hHeld => ?_)
  · exact S2.set (S2.set (S2.set (S2.set (unhide hk3) (by omega) (by omega) _) (by omega) (by omega) _) (by omega) (by omega) _) (by omega) (by omega) _
  clear hK K hHeld
  try simp only [Act.put, List.setIfInBounds_toArray, List.set_cons_zero, List.set_cons_succ]
  refine wpAnyH_done (by kernel_rfl) ?_ _
  obtain ⟨y0, y1, y2, y3, y4⟩ := s4
  go_wp2
  exact bodyPost_ret (v := .tuple #[.agg #[.int .i64 (V).lo, .int .i64 (V).hi, .bool (V).live, .int .i64 (V).al], .agg #[.int .i64 (V).lo, .int .i64 (V).hi, .bool (V).live, .int .i64 (V).al]]) (by simp [results, Try.results10, go_sem, y0, y1, y2, y3, c0, c1, c2, c3]) rfl ⟨rfl, ((((unhide hk4).setCell (by first | (simp; done) | (simp; omega)) _).setCell (by first | (simp; done) | (simp; omega)) _).setCell (by first | (simp; done) | (simp; omega)) _).setCell (by first | (simp; done) | (simp; omega)) _⟩
set_option maxHeartbeats 2000000 in
theorem op3_c (al ah bl bh : Int) (hal : In al) (hah : In ah) (hbl : In bl) (hbh : In bh) (w : World) : Calls Try.prog 10 #[.int .i64 3, .agg #[.int .i64 al, .int .i64 ah], .agg #[.int .i64 bl, .int .i64 bh]] w fun e w' => e = .returned (.tuple #[.agg #[.int .i64 (quoV al ah bl bh).lo, .int .i64 (quoV al ah bl bh).hi, .bool (quoV al ah bl bh).live, .int .i64 (quoV al ah bl bh).al], .agg #[.int .i64 (quoV al ah bl bh).lo, .int .i64 (quoV al ah bl bh).hi, .bool (quoV al ah bl bh).live, .int .i64 (quoV al ah bl bh).al]]) ∧ Below w.heap.size w w' := by
  obtain ⟨V, hV⟩ : ∃ V, V = quoV al ah bl bh := ⟨_, rfl⟩
  rw [← hV]
  have HV := hide hV
  have HI := hide (And.intro hal (And.intro hah (And.intro hbl hbh)))
  clear hV hal hah hbl hbh
  have hs : S2 w w.heap.size w.heap.size al ah bl bh ((((w.alloc (Obj.cells #[.int .i64 al, .int .i64 ah] 25)).alloc (Obj.cells #[.int .i64 bl, .int .i64 bh] 25)).alloc (Obj.cells #[.int .i64 0, .int .i64 0, .bool false, .int .i64 0] 30)).alloc (Obj.cells #[.int .i64 0, .int .i64 0, .bool false, .int .i64 0] 30)) := by
    refine S2.alloc (S2.alloc ⟨by simp, by simp, by simp, by simp, ((Below.refl _ _).alloc (Nat.le_refl _) _).alloc (by simp) _, by simp; omega, by simp⟩ _) _
  have ha := hide (show Z4 w.heap.size w.heap.size (w.heap.size + 1 + 1) ((((w.alloc (Obj.cells #[.int .i64 al, .int .i64 ah] 25)).alloc (Obj.cells #[.int .i64 bl, .int .i64 bh] 25)).alloc (Obj.cells #[.int .i64 0, .int .i64 0, .bool false, .int .i64 0] 30)).alloc (Obj.cells #[.int .i64 0, .int .i64 0, .bool false, .int .i64 0] 30)).drew from
    Z4.alloc ⟨⟨by simp [go_sem], by simp [go_sem], by simp [go_sem], by simp [go_sem]⟩, by omega, by omega, by simp, fun o => by simp [go_sem]⟩ _)
  have hc := hide (show Z4 w.heap.size w.heap.size (w.heap.size + 1 + 1 + 1) ((((w.alloc (Obj.cells #[.int .i64 al, .int .i64 ah] 25)).alloc (Obj.cells #[.int .i64 bl, .int .i64 bh] 25)).alloc (Obj.cells #[.int .i64 0, .int .i64 0, .bool false, .int .i64 0] 30)).alloc (Obj.cells #[.int .i64 0, .int .i64 0, .bool false, .int .i64 0] 30)).drew from
    ⟨⟨by simp [go_sem], by simp [go_sem], by simp [go_sem], by simp [go_sem]⟩, by omega, by omega, by simp, fun o => by simp [go_sem]⟩)
  go_enter Try.func10, Try.ntmps10
  go_wp2_with fail
  generalize (((w.alloc (Obj.cells #[.int .i64 al, .int .i64 ah] 25)).alloc (Obj.cells #[.int .i64 bl, .int .i64 bh] 25)).alloc (Obj.cells #[.int .i64 0, .int .i64 0, .bool false, .int .i64 0] 30)).alloc (Obj.cells #[.int .i64 0, .int .i64 0, .bool false, .int .i64 0] 30) = W at hs ha hc ⊢
  refine wp_region_held_drew (S := S2 w w.heap.size w.heap.size al ah bl bh) (by kernel_rfl) (S2.drew hs) (fun hHeld => ?_)
  refine wpAnyH_take (i := 0) (oi := { dst := some 35, op := Op.load 25 (Operand.tmp 4), type := 25, pos := "laws.go:344", after := #[], guard := none }) (v := ?_) rfl (by kernel_rfl) (by kernel_rfl) (by kernel_rfl) (fun _ _ _ h => h) (Or.inl ⟨by rfl, ?_⟩) (by assumption) ?_
  rotate_left
  · (intro w hSw; (try dsimp only at hSw); go_simp; try with_reducible rfl)
  try simp only [Act.put, List.setIfInBounds_toArray, List.set_cons_zero, List.set_cons_succ]
  refine wpAnyH_take (i := 1) (oi := { dst := some 36, op := Op.load 25 (Operand.tmp 5), type := 25, pos := "laws.go:344", after := #[], guard := none }) (v := ?_) rfl (by kernel_rfl) (by kernel_rfl) (by kernel_rfl) (fun _ _ _ h => h) (Or.inl ⟨by rfl, ?_⟩) (by assumption) ?_
  rotate_left
  · (intro w hSw; (try dsimp only at hSw); go_simp; try with_reducible rfl)
  try simp only [Act.put, List.setIfInBounds_toArray, List.set_cons_zero, List.set_cons_succ]
  refine wpAnyH_take (i := 3) (oi := { dst := some 38, op := Op.load 25 (Operand.tmp 4), type := 25, pos := "laws.go:344", after := #[], guard := none }) (v := ?_) rfl (by kernel_rfl) (by kernel_rfl) (by kernel_rfl) (fun _ _ _ h => h) (Or.inl ⟨by rfl, ?_⟩) (by assumption) ?_
  rotate_left
  · (intro w hSw; (try dsimp only at hSw); go_simp; try with_reducible rfl)
  try simp only [Act.put, List.setIfInBounds_toArray, List.set_cons_zero, List.set_cons_succ]
  refine wpAnyH_take (i := 4) (oi := { dst := some 39, op := Op.load 25 (Operand.tmp 5), type := 25, pos := "laws.go:344", after := #[], guard := none }) (v := ?_) rfl (by kernel_rfl) (by kernel_rfl) (by kernel_rfl) (fun _ _ _ h => h) (Or.inl ⟨by rfl, ?_⟩) (by assumption) ?_
  rotate_left
  · (intro w hSw; (try dsimp only at hSw); go_simp; try with_reducible rfl)
  try simp only [Act.put, List.setIfInBounds_toArray, List.set_cons_zero, List.set_cons_succ]
  refine wpAnyH_ready (rs := [2]) (by kernel_rfl) (by simp) ?_
  refine AllReadyH.cons (i := 2) (o := { dst := some 37, op := Op.call { callee := Callee.value (Operand.func 29), args := #[Operand.tmp 35, Operand.tmp 36], argTypes := #[25, 25] }, type := 30, pos := "laws.go:344", after := #[{ on := 0, ground := Ground.data }, { on := 1, ground := Ground.data }], guard := none }) rfl (fun K hK => ?_) AllReadyH.nil
  go_simp
  refine (IvQuo_c _ _ _ _ (unhide HI).1 (unhide HI).2.1 (unhide HI).2.2.1 (unhide HI).2.2.2 _).mono ?_
  rintro e w1 ⟨rfl, hb⟩
  rw [← unhide HV]
  have ha1 := hide (Z4.call hb (unhide ha))
  have hc1 := hide (Z4.call hb (unhide hc))
  have hk1 := hide (S2.call hb (by assumption : S2 w w.heap.size w.heap.size al ah bl bh W.drew))
  refine hK.out _ _ (unhide hk1) (fun hHeld => ?_)
  clear hK K hb
  try simp only [Act.put, List.setIfInBounds_toArray, List.set_cons_zero, List.set_cons_succ]
  refine wpAnyH_ready (rs := [5]) (by kernel_rfl) (by simp) ?_
  refine AllReadyH.cons (i := 5) (o := { dst := some 40, op := Op.call { callee := Callee.value (Operand.func 30), args := #[Operand.tmp 38, Operand.tmp 39], argTypes := #[25, 25] }, type := 30, pos := "laws.go:344", after := #[{ on := 3, ground := Ground.data }, { on := 4, ground := Ground.data }, { on := 2, ground := Ground.chain }], guard := none }) rfl (fun K hK => ?_) AllReadyH.nil
  go_simp
  refine (sIvQuo_c _ _ _ _ (unhide HI).1 (unhide HI).2.1 (unhide HI).2.2.1 (unhide HI).2.2.2 _).mono ?_
  rintro e w2 ⟨rfl, hb⟩
  rw [← unhide HV]
  have ha2 := hide (Z4.call hb (unhide ha1))
  have hc2 := hide (Z4.call hb (unhide hc1))
  have hk2 := hide (S2.call hb (unhide hk1))
  refine hK.out _ _ (unhide hk2) (fun hHeld => ?_)
  clear hK K hb
  try simp only [Act.put, List.setIfInBounds_toArray, List.set_cons_zero, List.set_cons_succ]
  refine wpAnyH_ready (rs := [6]) (by kernel_rfl) (by simp) ?_
  refine AllReadyH.cons (i := 6) (o := { dst := none, op := Op.store 30 (Operand.tmp 6) (Operand.tmp 37), type := 0, pos := "laws.go:344", after := #[{ on := 2, ground := Ground.data }, { on := 5, ground := Ground.chain }, { on := 0, ground := Ground.phase }, { on := 1, ground := Ground.phase }, { on := 2, ground := Ground.phase }, { on := 3, ground := Ground.textOnly Departure.lateStores }, { on := 4, ground := Ground.textOnly Departure.lateStores }, { on := 5, ground := Ground.textOnly Departure.lateStoresUnsure }], guard := none }) rfl (fun K hK => ?_) AllReadyH.nil
  obtain ⟨⟨c0, c1, c2, c3⟩, z1, z2, z3, z4⟩ := unhide ha2
  go_simp
  refine hK.out _ _ ?_ (fun hHeld => ?_)
  · exact S2.set (S2.set (S2.set (S2.set (unhide hk2) (by omega) (by omega) _) (by omega) (by omega) _) (by omega) (by omega) _) (by omega) (by omega) _
  clear hK K
  try simp only [Act.put, List.setIfInBounds_toArray, List.set_cons_zero, List.set_cons_succ]
  have s4 := set4_at (x := .int .i64 V.lo) (y := .int .i64 V.hi) (z := .bool V.live) (u := .int .i64 V.al) c0 c1 c2 c3
  have hk3 := hide (S2.set (S2.set (S2.set (S2.set (unhide hk2) (by omega) (by omega) (.int .i64 V.lo) (o := 0) (b := w.heap.size + 1 + 1)) (by omega) (by omega) (.int .i64 V.hi) (o := 1) (b := w.heap.size + 1 + 1)) (by omega) (by omega) (.bool V.live) (o := 2) (b := w.heap.size + 1 + 1)) (by omega) (by omega) (.int .i64 V.al) (o := 3) (b := w.heap.size + 1 + 1))
  have hc3 := hide (Z4.set_far (c := w.heap.size + 1 + 1) (o := 3) (v := .int .i64 V.al) (Z4.set_far (c := w.heap.size + 1 + 1) (o := 2) (v := .bool V.live) (Z4.set_far (c := w.heap.size + 1 + 1) (o := 1) (v := .int .i64 V.hi) (Z4.set_far (o := 0) (v := .int .i64 V.lo) (c := w.heap.size + 1 + 1) (unhide hc2) (by omega)) (by omega)) (by omega)) (by omega))
  clear c0 c1 c2 c3 z4 hHeld
  obtain ⟨w3, hw3⟩ : ∃ w3, w3 = (((w2.setCell ⟨w.heap.size + 1 + 1, 0, none⟩ (.int .i64 V.lo)).setCell ⟨w.heap.size + 1 + 1, 1, none⟩ (.int .i64 V.hi)).setCell ⟨w.heap.size + 1 + 1, 2, none⟩ (.bool V.live)).setCell ⟨w.heap.size + 1 + 1, 3, none⟩ (.int .i64 V.al) := ⟨_, rfl⟩
  rw [← hw3] at s4 hk3 hc3 ⊢
  clear hw3
  have hHeld := unhide hk3
  refine wpAnyH_ready (rs := [7]) (by kernel_rfl) (by simp) ?_
  refine AllReadyH.cons (i := 7) (o := { dst := none, op := Op.store 30 (Operand.tmp 7) (Operand.tmp 40), type := 0, pos := "laws.go:344", after := #[{ on := 5, ground := Ground.data }, { on := 6, ground := Ground.chain }, { on := 0, ground := Ground.phase }, { on := 1, ground := Ground.phase }, { on := 2, ground := Ground.phase }, { on := 3, ground := Ground.phase }, { on := 4, ground := Ground.phase }, { on := 5, ground := Ground.phase }, { on := 6, ground := Ground.phase }], guard := none }) rfl (fun K hK => ?_) AllReadyH.nil
  obtain ⟨⟨c0, c1, c2, c3⟩, z1', z2', z3', z4'⟩ := unhide hc3
  have hk4 := hide (unhide hk3).2.2.2.2.1
  go_simp
  refine hK.out _ _ ?_ (fun hHeld => ?_)
  · exact S2.set (S2.set (S2.set (S2.set (unhide hk3) (by omega) (by omega) _) (by omega) (by omega) _) (by omega) (by omega) _) (by omega) (by omega) _
  clear hK K hHeld
  try simp only [Act.put, List.setIfInBounds_toArray, List.set_cons_zero, List.set_cons_succ]
  refine wpAnyH_done (by kernel_rfl) ?_ _
  obtain ⟨y0, y1, y2, y3, y4⟩ := s4
  go_wp2
  exact bodyPost_ret (v := .tuple #[.agg #[.int .i64 (V).lo, .int .i64 (V).hi, .bool (V).live, .int .i64 (V).al], .agg #[.int .i64 (V).lo, .int .i64 (V).hi, .bool (V).live, .int .i64 (V).al]]) (by simp [results, Try.results10, go_sem, y0, y1, y2, y3, c0, c1, c2, c3]) rfl ⟨rfl, ((((unhide hk4).setCell (by first | (simp; done) | (simp; omega)) _).setCell (by first | (simp; done) | (simp; omega)) _).setCell (by first | (simp; done) | (simp; omega)) _).setCell (by first | (simp; done) | (simp; omega)) _⟩
set_option maxHeartbeats 2000000 in
theorem op4_c (al ah bl bh : Int) (hal : In al) (hah : In ah) (hbl : In bl) (hbh : In bh) (w : World) : Calls Try.prog 10 #[.int .i64 4, .agg #[.int .i64 al, .int .i64 ah], .agg #[.int .i64 bl, .int .i64 bh]] w fun e w' => e = .returned (.tuple #[.agg #[.int .i64 (remV al ah bl bh).lo, .int .i64 (remV al ah bl bh).hi, .bool (remV al ah bl bh).live, .int .i64 (remV al ah bl bh).al], .agg #[.int .i64 (remV al ah bl bh).lo, .int .i64 (remV al ah bl bh).hi, .bool (remV al ah bl bh).live, .int .i64 (remV al ah bl bh).al]]) ∧ Below w.heap.size w w' := by
  obtain ⟨V, hV⟩ : ∃ V, V = remV al ah bl bh := ⟨_, rfl⟩
  rw [← hV]
  have HV := hide hV
  have HI := hide (And.intro hal (And.intro hah (And.intro hbl hbh)))
  clear hV hal hah hbl hbh
  have hs : S2 w w.heap.size w.heap.size al ah bl bh ((((w.alloc (Obj.cells #[.int .i64 al, .int .i64 ah] 25)).alloc (Obj.cells #[.int .i64 bl, .int .i64 bh] 25)).alloc (Obj.cells #[.int .i64 0, .int .i64 0, .bool false, .int .i64 0] 30)).alloc (Obj.cells #[.int .i64 0, .int .i64 0, .bool false, .int .i64 0] 30)) := by
    refine S2.alloc (S2.alloc ⟨by simp, by simp, by simp, by simp, ((Below.refl _ _).alloc (Nat.le_refl _) _).alloc (by simp) _, by simp; omega, by simp⟩ _) _
  have ha := hide (show Z4 w.heap.size w.heap.size (w.heap.size + 1 + 1) ((((w.alloc (Obj.cells #[.int .i64 al, .int .i64 ah] 25)).alloc (Obj.cells #[.int .i64 bl, .int .i64 bh] 25)).alloc (Obj.cells #[.int .i64 0, .int .i64 0, .bool false, .int .i64 0] 30)).alloc (Obj.cells #[.int .i64 0, .int .i64 0, .bool false, .int .i64 0] 30)).drew from
    Z4.alloc ⟨⟨by simp [go_sem], by simp [go_sem], by simp [go_sem], by simp [go_sem]⟩, by omega, by omega, by simp, fun o => by simp [go_sem]⟩ _)
  have hc := hide (show Z4 w.heap.size w.heap.size (w.heap.size + 1 + 1 + 1) ((((w.alloc (Obj.cells #[.int .i64 al, .int .i64 ah] 25)).alloc (Obj.cells #[.int .i64 bl, .int .i64 bh] 25)).alloc (Obj.cells #[.int .i64 0, .int .i64 0, .bool false, .int .i64 0] 30)).alloc (Obj.cells #[.int .i64 0, .int .i64 0, .bool false, .int .i64 0] 30)).drew from
    ⟨⟨by simp [go_sem], by simp [go_sem], by simp [go_sem], by simp [go_sem]⟩, by omega, by omega, by simp, fun o => by simp [go_sem]⟩)
  go_enter Try.func10, Try.ntmps10
  go_wp2_with fail
  generalize (((w.alloc (Obj.cells #[.int .i64 al, .int .i64 ah] 25)).alloc (Obj.cells #[.int .i64 bl, .int .i64 bh] 25)).alloc (Obj.cells #[.int .i64 0, .int .i64 0, .bool false, .int .i64 0] 30)).alloc (Obj.cells #[.int .i64 0, .int .i64 0, .bool false, .int .i64 0] 30) = W at hs ha hc ⊢
  refine wp_region_held_drew (S := S2 w w.heap.size w.heap.size al ah bl bh) (by kernel_rfl) (S2.drew hs) (fun hHeld => ?_)
  refine wpAnyH_take (i := 0) (oi := { dst := some 41, op := Op.load 25 (Operand.tmp 4), type := 25, pos := "laws.go:346", after := #[], guard := none }) (v := ?_) rfl (by kernel_rfl) (by kernel_rfl) (by kernel_rfl) (fun _ _ _ h => h) (Or.inl ⟨by rfl, ?_⟩) (by assumption) ?_
  rotate_left
  · (intro w hSw; (try dsimp only at hSw); go_simp; try with_reducible rfl)
  try simp only [Act.put, List.setIfInBounds_toArray, List.set_cons_zero, List.set_cons_succ]
  refine wpAnyH_take (i := 1) (oi := { dst := some 42, op := Op.load 25 (Operand.tmp 5), type := 25, pos := "laws.go:346", after := #[], guard := none }) (v := ?_) rfl (by kernel_rfl) (by kernel_rfl) (by kernel_rfl) (fun _ _ _ h => h) (Or.inl ⟨by rfl, ?_⟩) (by assumption) ?_
  rotate_left
  · (intro w hSw; (try dsimp only at hSw); go_simp; try with_reducible rfl)
  try simp only [Act.put, List.setIfInBounds_toArray, List.set_cons_zero, List.set_cons_succ]
  refine wpAnyH_take (i := 3) (oi := { dst := some 44, op := Op.load 25 (Operand.tmp 4), type := 25, pos := "laws.go:346", after := #[], guard := none }) (v := ?_) rfl (by kernel_rfl) (by kernel_rfl) (by kernel_rfl) (fun _ _ _ h => h) (Or.inl ⟨by rfl, ?_⟩) (by assumption) ?_
  rotate_left
  · (intro w hSw; (try dsimp only at hSw); go_simp; try with_reducible rfl)
  try simp only [Act.put, List.setIfInBounds_toArray, List.set_cons_zero, List.set_cons_succ]
  refine wpAnyH_take (i := 4) (oi := { dst := some 45, op := Op.load 25 (Operand.tmp 5), type := 25, pos := "laws.go:346", after := #[], guard := none }) (v := ?_) rfl (by kernel_rfl) (by kernel_rfl) (by kernel_rfl) (fun _ _ _ h => h) (Or.inl ⟨by rfl, ?_⟩) (by assumption) ?_
  rotate_left
  · (intro w hSw; (try dsimp only at hSw); go_simp; try with_reducible rfl)
  try simp only [Act.put, List.setIfInBounds_toArray, List.set_cons_zero, List.set_cons_succ]
  refine wpAnyH_ready (rs := [2]) (by kernel_rfl) (by simp) ?_
  refine AllReadyH.cons (i := 2) (o := { dst := some 43, op := Op.call { callee := Callee.value (Operand.func 31), args := #[Operand.tmp 41, Operand.tmp 42], argTypes := #[25, 25] }, type := 30, pos := "laws.go:346", after := #[{ on := 0, ground := Ground.data }, { on := 1, ground := Ground.data }], guard := none }) rfl (fun K hK => ?_) AllReadyH.nil
  go_simp
  refine (IvRem_c _ _ _ _ (unhide HI).1 (unhide HI).2.1 (unhide HI).2.2.1 (unhide HI).2.2.2 _).mono ?_
  rintro e w1 ⟨rfl, hb⟩
  rw [← unhide HV]
  have ha1 := hide (Z4.call hb (unhide ha))
  have hc1 := hide (Z4.call hb (unhide hc))
  have hk1 := hide (S2.call hb (by assumption : S2 w w.heap.size w.heap.size al ah bl bh W.drew))
  refine hK.out _ _ (unhide hk1) (fun hHeld => ?_)
  clear hK K hb
  try simp only [Act.put, List.setIfInBounds_toArray, List.set_cons_zero, List.set_cons_succ]
  refine wpAnyH_ready (rs := [5]) (by kernel_rfl) (by simp) ?_
  refine AllReadyH.cons (i := 5) (o := { dst := some 46, op := Op.call { callee := Callee.value (Operand.func 32), args := #[Operand.tmp 44, Operand.tmp 45], argTypes := #[25, 25] }, type := 30, pos := "laws.go:346", after := #[{ on := 3, ground := Ground.data }, { on := 4, ground := Ground.data }, { on := 2, ground := Ground.chain }], guard := none }) rfl (fun K hK => ?_) AllReadyH.nil
  go_simp
  refine (sIvRem_c _ _ _ _ (unhide HI).1 (unhide HI).2.1 (unhide HI).2.2.1 (unhide HI).2.2.2 _).mono ?_
  rintro e w2 ⟨rfl, hb⟩
  rw [← unhide HV]
  have ha2 := hide (Z4.call hb (unhide ha1))
  have hc2 := hide (Z4.call hb (unhide hc1))
  have hk2 := hide (S2.call hb (unhide hk1))
  refine hK.out _ _ (unhide hk2) (fun hHeld => ?_)
  clear hK K hb
  try simp only [Act.put, List.setIfInBounds_toArray, List.set_cons_zero, List.set_cons_succ]
  refine wpAnyH_ready (rs := [6]) (by kernel_rfl) (by simp) ?_
  refine AllReadyH.cons (i := 6) (o := { dst := none, op := Op.store 30 (Operand.tmp 6) (Operand.tmp 43), type := 0, pos := "laws.go:346", after := #[{ on := 2, ground := Ground.data }, { on := 5, ground := Ground.chain }, { on := 0, ground := Ground.phase }, { on := 1, ground := Ground.phase }, { on := 2, ground := Ground.phase }, { on := 3, ground := Ground.textOnly Departure.lateStores }, { on := 4, ground := Ground.textOnly Departure.lateStores }, { on := 5, ground := Ground.textOnly Departure.lateStoresUnsure }], guard := none }) rfl (fun K hK => ?_) AllReadyH.nil
  obtain ⟨⟨c0, c1, c2, c3⟩, z1, z2, z3, z4⟩ := unhide ha2
  go_simp
  refine hK.out _ _ ?_ (fun hHeld => ?_)
  · exact S2.set (S2.set (S2.set (S2.set (unhide hk2) (by omega) (by omega) _) (by omega) (by omega) _) (by omega) (by omega) _) (by omega) (by omega) _
  clear hK K
  try simp only [Act.put, List.setIfInBounds_toArray, List.set_cons_zero, List.set_cons_succ]
  have s4 := set4_at (x := .int .i64 V.lo) (y := .int .i64 V.hi) (z := .bool V.live) (u := .int .i64 V.al) c0 c1 c2 c3
  have hk3 := hide (S2.set (S2.set (S2.set (S2.set (unhide hk2) (by omega) (by omega) (.int .i64 V.lo) (o := 0) (b := w.heap.size + 1 + 1)) (by omega) (by omega) (.int .i64 V.hi) (o := 1) (b := w.heap.size + 1 + 1)) (by omega) (by omega) (.bool V.live) (o := 2) (b := w.heap.size + 1 + 1)) (by omega) (by omega) (.int .i64 V.al) (o := 3) (b := w.heap.size + 1 + 1))
  have hc3 := hide (Z4.set_far (c := w.heap.size + 1 + 1) (o := 3) (v := .int .i64 V.al) (Z4.set_far (c := w.heap.size + 1 + 1) (o := 2) (v := .bool V.live) (Z4.set_far (c := w.heap.size + 1 + 1) (o := 1) (v := .int .i64 V.hi) (Z4.set_far (o := 0) (v := .int .i64 V.lo) (c := w.heap.size + 1 + 1) (unhide hc2) (by omega)) (by omega)) (by omega)) (by omega))
  clear c0 c1 c2 c3 z4 hHeld
  obtain ⟨w3, hw3⟩ : ∃ w3, w3 = (((w2.setCell ⟨w.heap.size + 1 + 1, 0, none⟩ (.int .i64 V.lo)).setCell ⟨w.heap.size + 1 + 1, 1, none⟩ (.int .i64 V.hi)).setCell ⟨w.heap.size + 1 + 1, 2, none⟩ (.bool V.live)).setCell ⟨w.heap.size + 1 + 1, 3, none⟩ (.int .i64 V.al) := ⟨_, rfl⟩
  rw [← hw3] at s4 hk3 hc3 ⊢
  clear hw3
  have hHeld := unhide hk3
  refine wpAnyH_ready (rs := [7]) (by kernel_rfl) (by simp) ?_
  refine AllReadyH.cons (i := 7) (o := { dst := none, op := Op.store 30 (Operand.tmp 7) (Operand.tmp 46), type := 0, pos := "laws.go:346", after := #[{ on := 5, ground := Ground.data }, { on := 6, ground := Ground.chain }, { on := 0, ground := Ground.phase }, { on := 1, ground := Ground.phase }, { on := 2, ground := Ground.phase }, { on := 3, ground := Ground.phase }, { on := 4, ground := Ground.phase }, { on := 5, ground := Ground.phase }, { on := 6, ground := Ground.phase }], guard := none }) rfl (fun K hK => ?_) AllReadyH.nil
  obtain ⟨⟨c0, c1, c2, c3⟩, z1', z2', z3', z4'⟩ := unhide hc3
  have hk4 := hide (unhide hk3).2.2.2.2.1
  go_simp
  refine hK.out _ _ ?_ (fun hHeld => ?_)
  · exact S2.set (S2.set (S2.set (S2.set (unhide hk3) (by omega) (by omega) _) (by omega) (by omega) _) (by omega) (by omega) _) (by omega) (by omega) _
  clear hK K hHeld
  try simp only [Act.put, List.setIfInBounds_toArray, List.set_cons_zero, List.set_cons_succ]
  refine wpAnyH_done (by kernel_rfl) ?_ _
  obtain ⟨y0, y1, y2, y3, y4⟩ := s4
  go_wp2
  exact bodyPost_ret (v := .tuple #[.agg #[.int .i64 (V).lo, .int .i64 (V).hi, .bool (V).live, .int .i64 (V).al], .agg #[.int .i64 (V).lo, .int .i64 (V).hi, .bool (V).live, .int .i64 (V).al]]) (by simp [results, Try.results10, go_sem, y0, y1, y2, y3, c0, c1, c2, c3]) rfl ⟨rfl, ((((unhide hk4).setCell (by first | (simp; done) | (simp; omega)) _).setCell (by first | (simp; done) | (simp; omega)) _).setCell (by first | (simp; done) | (simp; omega)) _).setCell (by first | (simp; done) | (simp; omega)) _⟩
theorem num0_c (a b : Int) (ha : In a) (hb : In b) (w : World) : Calls Try.prog 13 #[.int .i64 0, .int .i64 a, .int .i64 b] w fun e w' => e = .returned (.tuple #[.int .i64 (clN (a + b)), .int .i64 (clO (a + b))]) ∧ ∃ m, w' = w.drewN m := by
  go_enter Try.func13, Try.ntmps13
  go_wp2_with fail
  refine (NumAdd_c _ _ ha hb _).mono ?_
  rintro e w1 ⟨rfl, rfl⟩
  go_wp2
  go_ret2
  exact ⟨rfl, 0, rfl⟩
theorem num1_c (a b : Int) (ha : In a) (hb : In b) (w : World) : Calls Try.prog 13 #[.int .i64 1, .int .i64 a, .int .i64 b] w fun e w' => e = .returned (.tuple #[.int .i64 (clN (a - b)), .int .i64 (clO (a - b))]) ∧ ∃ m, w' = w.drewN m := by
  go_enter Try.func13, Try.ntmps13
  go_wp2_with fail
  refine (NumSub_c _ _ ha hb _).mono ?_
  rintro e w1 ⟨rfl, rfl⟩
  go_wp2
  go_ret2
  exact ⟨rfl, 0, rfl⟩
theorem num2_c (a b : Int) (ha : In a) (hb : In b) (w : World) : Calls Try.prog 13 #[.int .i64 2, .int .i64 a, .int .i64 b] w fun e w' => e = .returned (.tuple #[.int .i64 (clN (a * b)), .int .i64 (clO (a * b))]) ∧ ∃ m, w' = w.drewN m := by
  go_enter Try.func13, Try.ntmps13
  go_wp2_with fail
  refine (NumMul_c _ _ ha hb _).mono ?_
  rintro e w1 ⟨rfl, rfl⟩
  go_wp2
  go_ret2
  exact ⟨rfl, 0, rfl⟩
theorem num3_c (a b : Int) (ha : In a) (hb : In b) (w : World) : Calls Try.prog 13 #[.int .i64 3, .int .i64 a, .int .i64 b] w fun e w' => e = .returned (.tuple #[.int .i64 (quN a b), .int .i64 (quO a b)]) ∧ ∃ m, w' = w.drewN m := by
  go_enter Try.func13, Try.ntmps13
  go_wp2_with fail
  refine (NumQuo_c _ _ ha hb _).mono ?_
  rintro e w1 ⟨rfl, m, rfl⟩
  go_wp2
  go_ret2
  exact ⟨rfl, m, rfl⟩
theorem num4_c (a b : Int) (ha : In a) (_ : In b) (w : World) : Calls Try.prog 13 #[.int .i64 4, .int .i64 a, .int .i64 b] w fun e w' => e = .returned (.tuple #[.int .i64 (reN a b), .int .i64 (0)]) ∧ ∃ m, w' = w.drewN m := by
  go_enter Try.func13, Try.ntmps13
  go_wp2_with fail
  refine (NumRem_c _ _ ha _).mono ?_
  rintro e w1 ⟨rfl, rfl⟩
  go_wp2
  go_ret2
  exact ⟨rfl, 0, rfl⟩
end Go.Proofs.Ytfnedaidljppnaa
