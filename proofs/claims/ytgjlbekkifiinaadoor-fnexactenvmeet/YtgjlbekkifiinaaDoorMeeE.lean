/- The meet of bounds: the specification's function. -/
import Derived.Test.YtgjlbekkifiinaaDoorMeeD
import Derived.Test.YtgjlbekkifiinaaDoorLawU
namespace Go.Proofs.YtgjlbekkifiinaaDoor
open Go.RowKit
set_option linter.unusedSimpArgs false
set_option linter.unusedVariables false

/-- An interval in a block of the call's own. -/
def CI (u : World) (b : Nat) (x y : Int) : Prop := u.cell? ⟨b, 0, none⟩ = some (.int .i64 x) ∧ u.cell? ⟨b, 1, none⟩ = some (.int .i64 y) ∧ (∀ o, u.frozen? ⟨b, o, none⟩ = false) ∧ b < u.heap.size
theorem CI.new (w : World) (x y : Int) (t : TypeId) : CI (w.alloc (Obj.cells #[.int .i64 x, .int .i64 y] t)) w.heap.size x y :=
  ⟨by simp [go_sem], by simp [go_sem], fun o => by simp [go_sem], by simp⟩
theorem CI.call {u v : World} {b : Nat} {x y : Int} (h : CI u b x y) (hb : Below u.heap.size u v) : CI v b x y :=
  ⟨(hb.cell (by exact h.2.2.2)).trans h.1, (hb.cell (by exact h.2.2.2)).trans h.2.1, fun o => (hb.frozen (by exact h.2.2.2)).trans (h.2.2.1 o), Nat.lt_of_lt_of_le h.2.2.2 hb.size⟩
theorem CI.stored {u : World} {b : Nat} {x y : Int} (h : CI u b x y) (p q : Int) : CI ((u.setCell ⟨b, 0, none⟩ (.int .i64 p)).setCell ⟨b, 1, none⟩ (.int .i64 q)) b p q :=
  ⟨by simp [go_sem, h.1, h.2.1], by simp [go_sem, h.1, h.2.1], fun o => by simp [World.frozen?_setCell, h.2.2.1 o], by simpa [World.setCell] using h.2.2.2⟩
set_option maxRecDepth 20000 in
set_option maxHeartbeats 4000000 in
theorem sEnvMeet_c (a1 a2 a3 c1 c2 c3 : Nat) (vs fs : List ByteArray) (rs : List (ByteArray × Int)) (li : Bool) (e1 e2 d1 d2 : Nat) (xs ys : List (Int × Int)) (lj : Bool) (e3 e4 d3 d4 : Nat) (xs2 ys2 : List (Int × Int)) (w : World) (hv : Strs w (some ⟨a1, 0, none⟩) vs) (hf : Strs w (some ⟨a2, 0, none⟩) fs) (hr : Arrs w (some ⟨a3, 0, none⟩) rs)
    (hz : ∀ x ∈ namesOf vs fs rs, x.size ≤ 1048576) (hx : Ivs w (some ⟨e1, 0, none⟩) xs) (hy : Ivs w (some ⟨e2, 0, none⟩) ys) (hx2 : Ivs w (some ⟨e3, 0, none⟩) xs2) (hy2 : Ivs w (some ⟨e4, 0, none⟩) ys2) :
    Calls Tryd.prog 23 #[.agg #[.slice (some ⟨a1, 0, none⟩) vs.length c1, .slice (some ⟨a2, 0, none⟩) fs.length c2, .slice (some ⟨a3, 0, none⟩) rs.length c3], .agg #[.bool li, .slice (some ⟨e1, 0, none⟩) xs.length d1, .slice (some ⟨e2, 0, none⟩) ys.length d2], .agg #[.bool lj, .slice (some ⟨e3, 0, none⟩) xs2.length d3, .slice (some ⟨e4, 0, none⟩) ys2.length d4]] w
    fun e w' => ∃ oa ca ob cb, e = .returned (.agg #[.bool (metL vs fs rs li xs ys lj xs2 ys2), .slice oa (metV vs fs rs li xs ys lj xs2 ys2).1.length ca, .slice ob (metV vs fs rs li xs ys lj xs2 ys2).2.length cb]) ∧ RowsE w' w.heap.size oa ca ob cb (metV vs fs rs li xs ys lj xs2 ys2).1 (metV vs fs rs li xs ys lj xs2 ys2).2 ∧ Below w.heap.size w w' := by
  have HV := hide hv
  have HF := hide hf
  have HR := hide hr
  have HZ := hide hz
  have HX := hide hx
  have HY := hide hy
  have HX2 := hide hx2
  have HY2 := hide hy2
  have HB := hide (Q5.new w (.slice (some ⟨a1, 0, none⟩) vs.length c1) (.slice (some ⟨a2, 0, none⟩) fs.length c2) (.slice (some ⟨a3, 0, none⟩) rs.length c3) (.bool li) (.slice (some ⟨e1, 0, none⟩) xs.length d1) (.slice (some ⟨e2, 0, none⟩) ys.length d2) (.bool lj) (.slice (some ⟨e3, 0, none⟩) xs2.length d3) (.slice (some ⟨e4, 0, none⟩) ys2.length d4) 40 44 44 44)
  clear hv hf hr hz hx hy hx2 hy2
  go_enter Tryd.func23, Tryd.ntmps23
  go_wp2_with fail
  generalize (((w.alloc (Obj.cells #[.slice (some ⟨a1, 0, none⟩) vs.length c1, .slice (some ⟨a2, 0, none⟩) fs.length c2, .slice (some ⟨a3, 0, none⟩) rs.length c3] 40)).alloc (Obj.cells #[.bool li, .slice (some ⟨e1, 0, none⟩) xs.length d1, .slice (some ⟨e2, 0, none⟩) ys.length d2] 44)).alloc (Obj.cells #[.bool lj, .slice (some ⟨e3, 0, none⟩) xs2.length d3, .slice (some ⟨e4, 0, none⟩) ys2.length d4] 44)).alloc (Obj.cells #[.bool false, .slice none 0 0, .slice none 0 0] 44) = u at HB ⊢
  refine (sEnvOk_c a1 a2 a3 c1 c2 c3 vs fs rs li e1 e2 d1 d2 xs ys _ ((unhide HV).call (unhide HB).bel) ((unhide HF).call (unhide HB).bel) ((unhide HR).call (unhide HB).bel) (unhide HZ) ((unhide HX).call (unhide HB).bel) ((unhide HY).call (unhide HB).bel)).mono ?_
  rintro e u1 ⟨rfl, kb⟩
  have HB := hide ((unhide HB).call kb)
  clear kb
  have r0 := (unhide HB).2.1
  have r1 := (unhide HB).2.2.1
  have r2 := (unhide HB).2.2.2.1
  have f0 := (unhide HB).2.2.2.2 0
  have f1 := (unhide HB).2.2.2.2 1
  have f2 := (unhide HB).2.2.2.2 2
  cases h1 : envB vs fs rs li xs ys
  · have hno : metL vs fs rs li xs ys lj xs2 ys2 = false := by unfold metL; rw [h1]; simp
    have HN := hide (And.intro hno (metV_no hno))
    clear hno
    clear h1
    go_wp2
    rw [(unhide HN).1, (unhide HN).2]
    exact bodyPost_ret (v := .agg #[.bool false, .slice none 0 0, .slice none 0 0]) (by simp [results, Tryd.results23, go_sem, r0, r1, r2]) rfl ⟨none, 0, none, 0, rfl, rows_nil _ _, (((unhide HB).bel.setCell (by first | exact Nat.le_add_right _ _ | (simp; done) | (simp; omega)) _).setCell (by first | exact Nat.le_add_right _ _ | (simp; done) | (simp; omega)) _).setCell (by first | exact Nat.le_add_right _ _ | (simp; done) | (simp; omega)) _⟩
  have H1 := hide h1
  clear h1
  have p0 := (unhide HB).1.1.1
  have p1 := (unhide HB).1.1.2.1
  have p2 := (unhide HB).1.1.2.2.1
  have s0 := (unhide HB).1.2.2.1.1
  have s1 := (unhide HB).1.2.2.1.2.1
  have s2 := (unhide HB).1.2.2.1.2.2.1
  clear r0 r1 r2 f0 f1 f2
  go_wp2_with fail
  refine (sEnvOk_c a1 a2 a3 c1 c2 c3 vs fs rs lj e3 e4 d3 d4 xs2 ys2 _ ((unhide HV).call (unhide HB).bel) ((unhide HF).call (unhide HB).bel) ((unhide HR).call (unhide HB).bel) (unhide HZ) ((unhide HX2).call (unhide HB).bel) ((unhide HY2).call (unhide HB).bel)).mono ?_
  rintro e u2 ⟨rfl, kb⟩
  have HB := hide ((unhide HB).call kb)
  clear kb p0 p1 p2 s0 s1 s2
  have r0 := (unhide HB).2.1
  have r1 := (unhide HB).2.2.1
  have r2 := (unhide HB).2.2.2.1
  have f0 := (unhide HB).2.2.2.2 0
  have f1 := (unhide HB).2.2.2.2 1
  have f2 := (unhide HB).2.2.2.2 2
  have q0 := (unhide HB).1.2.1.1
  cases h2 : envB vs fs rs lj xs2 ys2
  · have hno : metL vs fs rs li xs ys lj xs2 ys2 = false := by unfold metL; rw [h2]; simp
    have HN := hide (And.intro hno (metV_no hno))
    clear hno
    clear h2
    go_wp2
    rw [(unhide HN).1, (unhide HN).2]
    exact bodyPost_ret (v := .agg #[.bool false, .slice none 0 0, .slice none 0 0]) (by simp [results, Tryd.results23, go_sem, r0, r1, r2]) rfl ⟨none, 0, none, 0, rfl, rows_nil _ _, (((unhide HB).bel.setCell (by first | exact Nat.le_add_right _ _ | (simp; done) | (simp; omega)) _).setCell (by first | exact Nat.le_add_right _ _ | (simp; done) | (simp; omega)) _).setCell (by first | exact Nat.le_add_right _ _ | (simp; done) | (simp; omega)) _⟩
  have H2 := hide h2
  clear h2
  cases li
  · have hno : metL vs fs rs false xs ys lj xs2 ys2 = false := by unfold metL; simp
    have HN := hide (And.intro hno (metV_no hno))
    clear hno
    go_wp2
    rw [(unhide HN).1, (unhide HN).2]
    exact bodyPost_ret (v := .agg #[.bool false, .slice none 0 0, .slice none 0 0]) (by simp [results, Tryd.results23, go_sem, r0, r1, r2]) rfl ⟨none, 0, none, 0, rfl, rows_nil _ _, (((unhide HB).bel.setCell (by first | exact Nat.le_add_right _ _ | (simp; done) | (simp; omega)) _).setCell (by first | exact Nat.le_add_right _ _ | (simp; done) | (simp; omega)) _).setCell (by first | exact Nat.le_add_right _ _ | (simp; done) | (simp; omega)) _⟩
  have s0 := (unhide HB).1.2.2.1.1
  cases lj
  · have hno : metL vs fs rs true xs ys false xs2 ys2 = false := by unfold metL; simp
    have HN := hide (And.intro hno (metV_no hno))
    clear hno
    go_wp2
    rw [(unhide HN).1, (unhide HN).2]
    exact bodyPost_ret (v := .agg #[.bool false, .slice none 0 0, .slice none 0 0]) (by simp [results, Tryd.results23, go_sem, r0, r1, r2]) rfl ⟨none, 0, none, 0, rfl, rows_nil _ _, (((unhide HB).bel.setCell (by first | exact Nat.le_add_right _ _ | (simp; done) | (simp; omega)) _).setCell (by first | exact Nat.le_add_right _ _ | (simp; done) | (simp; omega)) _).setCell (by first | exact Nat.le_add_right _ _ | (simp; done) | (simp; omega)) _⟩
  have HN := hide (metL_both (unhide H1) (unhide H2))
  have HS := hide (And.intro (env_small (unhide H1)) (env_small (unhide H2)))
  have HL := hide (env_lens (unhide H1) (unhide H2) rfl rfl)
  have hL : xs.length + ys.length ≤ 7 := by have := unhide HS; omega
  have HXY := hide (show List.zipWith mt (xs ++ ys) (xs2 ++ ys2) = List.zipWith mt xs xs2 ++ List.zipWith mt ys ys2 from List.zipWith_append (unhide HL).1)
  have HXL := hide (show (List.zipWith mt xs xs2).length = xs.length ∧ (List.zipWith mt ys ys2).length = ys.length by have := unhide HL; simp; omega)
  clear r0 r1 r2 f0 f1 f2
  have q1 := (unhide HB).1.2.1.2.1
  have q2 := (unhide HB).1.2.1.2.2.1
  obtain ⟨inf, hi, hz0, hz1, hz2⟩ := info_parts ivInfo
  go_wp2_with fail
  refine (l6List_c true e1 e2 d1 d2 xs ys _ ((unhide HX).call (unhide HB).bel) ((unhide HY).call (unhide HB).bel) (by omega)).mono ?_
  rintro e u3 ⟨oa, cap, rfl, R, kb⟩
  have HR2 := hide R
  have HB := hide ((unhide HB).call kb)
  clear R kb q0 q1 q2 s0
  have s0 := (unhide HB).1.2.2.1.1
  have s1 := (unhide HB).1.2.2.1.2.1
  have s2 := (unhide HB).1.2.2.1.2.2.1
  go_wp2_with fail
  refine (l6List_c true e3 e4 d3 d4 xs2 ys2 _ ((unhide HX2).call (unhide HB).bel) ((unhide HY2).call (unhide HB).bel) (by have := unhide HL; omega)).mono ?_
  rintro e u4 ⟨ob, cap2, rfl, R, kb⟩
  have HR3 := hide R
  have HR2 := hide ((unhide HR2).call kb)
  have HB := hide ((unhide HB).call kb)
  clear R kb s0 s1 s2 HX HY HX2 HY2
  have z3 : w.heap.size + 3 < u4.heap.size := (unhide HB).2.lt
  have HN1 := hide (show xs.length + ys.length = (xs ++ ys).length by rw [List.length_append])
  have HM := hide (show xs.length + ys.length = (xs2 ++ ys2).length by rw [List.length_append]; have := unhide HL; omega)
  rw [show xs2.length + ys2.length = xs.length + ys.length by have := unhide HL; omega]
  generalize xs ++ ys = zs at HXY HR2 HN HN1 ⊢
  generalize xs2 ++ ys2 = zt at HXY HR3 HN HM ⊢
  generalize hLe : xs.length + ys.length = L at hL HN1 HM ⊢
  have HLE := hide hLe
  clear hLe
  have hL' : (L : Int) ≤ 7 := by omega
  go_wp2
  go_loopw [9, 10] (fun l i wr => ∃ (k g cap : Nat), k ≤ L ∧ i = .int .i64 k ∧ l = .slice (some ⟨g, 0, none⟩) k cap ∧ wr.ownsRow u4.heap.size 88 2 (.slice (some ⟨g, 0, none⟩) k cap) k (cellsV ((List.zipWith mt zs zt).take k)) ∧ (∀ j, (h : j < zs.length) → (h2 : j < zt.length) → j < k → meetB zs[j].1 zs[j].2 zt[j].1 zt[j].2 = true) ∧ Below u4.heap.size u4 wr) (fun _ i _ => L - (intOf i).toNat)
  case atStart => exact ⟨0, u4.heap.size, 0, Nat.zero_le _, rfl, rfl, rowV u4 u4.heap.size (Nat.le_refl _), fun j _ _ h => by omega, (Below.refl _ _).alloc (Nat.le_refl _) _⟩
  case round =>
    obtain ⟨k, g, cp, hk, rfl, rfl, ho, hall, hb⟩ := hrel
    have HO := hide ho
    have HD := hide hb
    have HA := hide hall
    clear ho hall
    by_cases hlt : k < L
    · have hk' : k < zs.length := by rw [← unhide HN1]; exact hlt
      have hm' : k < zt.length := by rw [← unhide HM]; exact hlt
      rcases (unhide HR2).2 with h0 | ⟨cb, co, rfl, hc⟩
      · omega
      rcases (unhide HR3).2 with h0 | ⟨cb2, co2, rfl, hc2⟩
      · omega
      have HT := hide (mt_snoc zs zt k hk' hm')
      have HG := hide (show meetB zs[k].1 zs[k].2 zt[k].1 zt[k].2 = true → ∀ j, (h : j < zs.length) → (h2 : j < zt.length) → j < k + 1 → meetB zs[j].1 zs[j].2 zt[j].1 zt[j].2 = true from fun e j h h2 hj => by
        by_cases q : j = k
        · subst q; exact e
        · exact unhide HA j h h2 (by omega))
      have HF1 := hide (show meetB zs[k].1 zs[k].2 zt[k].1 zt[k].2 = false → decide (metP zs zt) = false from fun e => decide_eq_false (fun h => by have := h k hk' hm'; rw [e] at this; cases this))
      have p1 := (hb.cell (World.block_lt_of_cell? _ _ (hc k hk').1)).trans (hc k hk').1
      have p2 := (hb.cell (World.block_lt_of_cell? _ _ (hc k hk').2)).trans (hc k hk').2
      have p3 := (hb.cell (World.block_lt_of_cell? _ _ (hc2 k hm').1)).trans (hc2 k hm').1
      have p4 := (hb.cell (World.block_lt_of_cell? _ _ (hc2 k hm').2)).trans (hc2 k hm').2
      clear hc hc2 hb
      generalize zs[k].1 = x at p1 HT HG HF1
      generalize zs[k].2 = y at p2 HT HG HF1
      generalize zt[k].1 = x2 at p3 HT HG HF1
      generalize zt[k].2 = y2 at p4 HT HG HF1
      have hlt' : (k : Int) < (L : Int) := by omega
      have zw := (unhide HD).size
      go_upto_region 9 with fail
      go_cut [11, 12] (fun p q wc => ∃ b, p = .pointer (some ⟨b, 0, none⟩) ∧ q = .bool (meetB x y x2 y2) ∧ wc.cell? ⟨b, 0, none⟩ = some (.int .i64 (meetL x y x2 y2)) ∧ wc.cell? ⟨b, 1, none⟩ = some (.int .i64 (meetH x y x2 y2)) ∧ wr.heap.size ≤ b ∧ Below wr.heap.size wr wc)
      case first =>
        have hk := hide (SJ.drew (SJ.of (w0 := wr) ⟨p1, p2, p3, p4⟩ (Below.refl _ _)))
        clear p1 p2 p3 p4
        obtain ⟨wz0, hw0⟩ : ∃ x, x = wr.drew := ⟨_, rfl⟩
        rw [← hw0] at hk
        refine wp_region_held_drew (S := (SJ wr ⟨cb, co + k * 2, none⟩ ⟨cb, co + k * 2 + 1, none⟩ ⟨cb2, co2 + k * 2, none⟩ ⟨cb2, co2 + k * 2 + 1, none⟩ (.int .i64 x) (.int .i64 y) (.int .i64 x2) (.int .i64 y2))) (by kernel_rfl) (by rw [← hw0]; exact unhide hk) (fun hHeld => ?_)
        rw [← hw0] at hHeld ⊢
        clear hw0
        refine wpAnyH_take (i := 0) (oi := { dst := some 46, op := Op.move (Operand.tmp 7), type := 42, pos := "l06_bounds.go:111", after := #[], guard := none }) (v := ?_) rfl (by kernel_rfl) (by kernel_rfl) (by kernel_rfl) (fun _ _ _ h => h) (Or.inl ⟨by rfl, ?_⟩) (by assumption) ?_
        rotate_left
        · (intro w hSw; (try dsimp only at hSw); go_simp; try with_reducible rfl)
        try simp only [Act.put, List.setIfInBounds_toArray, List.set_cons_zero, List.set_cons_succ]
        refine wpAnyH_take (i := 1) (oi := { dst := some 47, op := Op.move (Operand.tmp 10), type := 3, pos := "l06_bounds.go:111", after := #[], guard := none }) (v := ?_) rfl (by kernel_rfl) (by kernel_rfl) (by kernel_rfl) (fun _ _ _ h => h) (Or.inl ⟨by rfl, ?_⟩) (by assumption) ?_
        rotate_left
        · (intro w hSw; (try dsimp only at hSw); go_simp; try with_reducible rfl)
        try simp only [Act.put, List.setIfInBounds_toArray, List.set_cons_zero, List.set_cons_succ]
        refine wpAnyH_take (i := 2) (oi := { dst := some 48, op := Op.indexAddr 42 (Operand.tmp 46) (Operand.tmp 47), type := 0, pos := "l06_bounds.go:111", after := #[{ on := 0, ground := Ground.data }, { on := 1, ground := Ground.data }], guard := none }) (v := ?_) rfl (by kernel_rfl) (by kernel_rfl) (by kernel_rfl) (fun _ _ _ h => h) (Or.inl ⟨by rfl, ?_⟩) (by assumption) ?_
        rotate_left
        · (intro w hSw; (try dsimp only at hSw); go_simp; try with_reducible rfl)
        try simp only [Act.put, List.setIfInBounds_toArray, List.set_cons_zero, List.set_cons_succ]
        refine wpAnyH_take (i := 3) (oi := { dst := some 49, op := Op.load 88 (Operand.tmp 48), type := 88, pos := "l06_bounds.go:111", after := #[{ on := 2, ground := Ground.data }], guard := none }) (v := ?_) rfl (by kernel_rfl) (by kernel_rfl) (by kernel_rfl) (fun _ _ _ h => h) (Or.inl ⟨by rfl, ?_⟩) (by assumption) ?_
        rotate_left
        · (intro w hSw; (try dsimp only at hSw); go_simp; try with_reducible rfl)
        try simp only [Act.put, List.setIfInBounds_toArray, List.set_cons_zero, List.set_cons_succ]
        refine wpAnyH_take (i := 4) (oi := { dst := some 50, op := Op.move (Operand.tmp 8), type := 42, pos := "l06_bounds.go:111", after := #[], guard := none }) (v := ?_) rfl (by kernel_rfl) (by kernel_rfl) (by kernel_rfl) (fun _ _ _ h => h) (Or.inl ⟨by rfl, ?_⟩) (by assumption) ?_
        rotate_left
        · (intro w hSw; (try dsimp only at hSw); go_simp; try with_reducible rfl)
        try simp only [Act.put, List.setIfInBounds_toArray, List.set_cons_zero, List.set_cons_succ]
        refine wpAnyH_take (i := 5) (oi := { dst := some 51, op := Op.move (Operand.tmp 10), type := 3, pos := "l06_bounds.go:111", after := #[], guard := none }) (v := ?_) rfl (by kernel_rfl) (by kernel_rfl) (by kernel_rfl) (fun _ _ _ h => h) (Or.inl ⟨by rfl, ?_⟩) (by assumption) ?_
        rotate_left
        · (intro w hSw; (try dsimp only at hSw); go_simp; try with_reducible rfl)
        try simp only [Act.put, List.setIfInBounds_toArray, List.set_cons_zero, List.set_cons_succ]
        refine wpAnyH_take (i := 6) (oi := { dst := some 52, op := Op.indexAddr 42 (Operand.tmp 50) (Operand.tmp 51), type := 0, pos := "l06_bounds.go:111", after := #[{ on := 4, ground := Ground.data }, { on := 5, ground := Ground.data }], guard := none }) (v := ?_) rfl (by kernel_rfl) (by kernel_rfl) (by kernel_rfl) (fun _ _ _ h => h) (Or.inl ⟨by rfl, ?_⟩) (by assumption) ?_
        rotate_left
        · (intro w hSw; (try dsimp only at hSw); go_simp; try with_reducible rfl)
        try simp only [Act.put, List.setIfInBounds_toArray, List.set_cons_zero, List.set_cons_succ]
        refine wpAnyH_take (i := 7) (oi := { dst := some 53, op := Op.load 88 (Operand.tmp 52), type := 88, pos := "l06_bounds.go:111", after := #[{ on := 6, ground := Ground.data }], guard := none }) (v := ?_) rfl (by kernel_rfl) (by kernel_rfl) (by kernel_rfl) (fun _ _ _ h => h) (Or.inl ⟨by rfl, ?_⟩) (by assumption) ?_
        rotate_left
        · (intro w hSw; (try dsimp only at hSw); go_simp; try with_reducible rfl)
        try simp only [Act.put, List.setIfInBounds_toArray, List.set_cons_zero, List.set_cons_succ]
        refine wpAnyH_ready (rs := [8, 12]) (by kernel_rfl) (by simp) ?_
        refine AllReadyH.cons (i := 8) (o := { dst := some 54, op := Op.call { callee := Callee.value (Operand.func 60), args := #[Operand.tmp 49, Operand.tmp 53], argTypes := #[88, 88] }, type := 89, pos := "l06_bounds.go:111", after := #[{ on := 3, ground := Ground.data }, { on := 7, ground := Ground.data }], guard := none }) rfl (fun K hK => ?_) (AllReadyH.cons (i := 12) (o := { dst := some 11, op := Op.alloc 88, type := 0, pos := "l06_bounds.go:111", after := #[], guard := none }) rfl (fun K hK => ?_) AllReadyH.nil)
        · go_simp
          refine (sIvMeet_c _ _ _ _ _).mono ?_
          rintro e wz1 ⟨rfl, hb⟩
          have hk := hide ((unhide hk).call hb)
          clear hb
          refine hK.out _ _ (unhide hk) (fun hHeld => ?_)
          clear hK K
          try simp only [Act.put, List.setIfInBounds_toArray, List.set_cons_zero, List.set_cons_succ]
          refine wpAnyH_take (i := 9) (oi := { dst := some 45, op := Op.move (Operand.tmp 54), type := 89, pos := "l06_bounds.go:111", after := #[{ on := 8, ground := Ground.data }], guard := none }) (v := ?_) rfl (by kernel_rfl) (by kernel_rfl) (by kernel_rfl) (fun _ _ _ h => h) (Or.inl ⟨by rfl, ?_⟩) (by assumption) ?_
          rotate_left
          · (intro w hSw; (try dsimp only at hSw); go_simp; try with_reducible rfl)
          try simp only [Act.put, List.setIfInBounds_toArray, List.set_cons_zero, List.set_cons_succ]
          refine wpAnyH_take (i := 10) (oi := { dst := some 55, op := Op.extract (Operand.tmp 45) 0, type := 88, pos := "l06_bounds.go:111", after := #[{ on := 9, ground := Ground.data }], guard := none }) (v := ?_) rfl (by kernel_rfl) (by kernel_rfl) (by kernel_rfl) (fun _ _ _ h => h) (Or.inl ⟨by rfl, ?_⟩) (by assumption) ?_
          rotate_left
          · (intro w hSw; (try dsimp only at hSw); go_simp; try with_reducible rfl)
          try simp only [Act.put, List.setIfInBounds_toArray, List.set_cons_zero, List.set_cons_succ]
          refine wpAnyH_take (i := 11) (oi := { dst := some 56, op := Op.extract (Operand.tmp 45) 1, type := 4, pos := "l06_bounds.go:111", after := #[{ on := 9, ground := Ground.data }, { on := 13, ground := Ground.gcOnly Departure.lateStores }], guard := none }) (v := ?_) rfl (by kernel_rfl) (by kernel_rfl) (by kernel_rfl) (fun _ _ _ h => h) (Or.inl ⟨by rfl, ?_⟩) (by assumption) ?_
          rotate_left
          · (intro w hSw; (try dsimp only at hSw); go_simp; try with_reducible rfl)
          try simp only [Act.put, List.setIfInBounds_toArray, List.set_cons_zero, List.set_cons_succ]
          refine wpAnyH_ready (rs := [12]) (by kernel_rfl) (by simp) ?_
          refine AllReadyH.cons (i := 12) (o := { dst := some 11, op := Op.alloc 88, type := 0, pos := "l06_bounds.go:111", after := #[], guard := none }) rfl (fun K hK => ?_) AllReadyH.nil
          have HA2 := CI.new wz1 0 0 88
          have hlg : wr.heap.size ≤ wz1.heap.size := (unhide hk).bel.size
          have ka := (Below.refl _ wz1).alloc (Nat.le_refl _) (Obj.cells #[.int .i64 0, .int .i64 0] 88)
          have hk := hide ((unhide hk).call ka)
          clear ka
          go_simp
          refine hK.out _ _ (unhide hk) (fun hHeld => ?_)
          clear hK K
          try simp only [Act.put, List.setIfInBounds_toArray, List.set_cons_zero, List.set_cons_succ]
          clear hHeld
          generalize hg : wz1.alloc (Obj.cells #[.int .i64 0, .int .i64 0] 88) = wz2 at HA2 hk ⊢
          clear hg
          have hHeld := unhide hk
          generalize wz1.heap.size = bz at HA2 hlg ⊢
          have HA2 := hide HA2
          have HLG := hide hlg
          clear hlg
          refine wpAnyH_ready (rs := [13]) (by kernel_rfl) (by simp) ?_
          refine AllReadyH.cons (i := 13) (o := { dst := none, op := Op.store 88 (Operand.tmp 11) (Operand.tmp 55), type := 0, pos := "l06_bounds.go:111", after := #[{ on := 12, ground := Ground.data }, { on := 10, ground := Ground.data }, { on := 8, ground := Ground.chain }, { on := 0, ground := Ground.phase }, { on := 1, ground := Ground.phase }, { on := 2, ground := Ground.phase }, { on := 3, ground := Ground.phase }, { on := 4, ground := Ground.phase }, { on := 5, ground := Ground.phase }, { on := 6, ground := Ground.phase }, { on := 7, ground := Ground.phase }, { on := 8, ground := Ground.phase }, { on := 9, ground := Ground.phase }, { on := 10, ground := Ground.phase }, { on := 11, ground := Ground.textOnly Departure.lateStores }, { on := 12, ground := Ground.phase }], guard := none }) rfl (fun K hK => ?_) AllReadyH.nil
          obtain ⟨c0, c1_, cf, _⟩ := unhide HA2
          have f0 := cf 0
          have f1 := cf 1
          clear cf
          go_simp
          refine hK.out _ _ ?_ (fun hHeld => ?_)
          · exact SJ.of (unhide (unhide hk).2.2.2.2).1 (bel_set (bel_set (unhide hk).bel (unhide HLG)) (unhide HLG))
          clear hK K c0 c1_ f0 f1
          try simp only [Act.put, List.setIfInBounds_toArray, List.set_cons_zero, List.set_cons_succ]
          refine wpAnyH_take (i := 14) (oi := { dst := some 12, op := Op.assign (Operand.tmp 56), type := 4, pos := "l06_bounds.go:111", after := #[{ on := 11, ground := Ground.data }, { on := 13, ground := Ground.chain }, { on := 0, ground := Ground.phase }, { on := 1, ground := Ground.phase }, { on := 2, ground := Ground.phase }, { on := 3, ground := Ground.phase }, { on := 4, ground := Ground.phase }, { on := 5, ground := Ground.phase }, { on := 6, ground := Ground.phase }, { on := 7, ground := Ground.phase }, { on := 8, ground := Ground.phase }, { on := 9, ground := Ground.phase }, { on := 10, ground := Ground.phase }, { on := 11, ground := Ground.phase }, { on := 12, ground := Ground.phase }, { on := 13, ground := Ground.phase }], guard := none }) (v := ?_) rfl (by kernel_rfl) (by kernel_rfl) (by kernel_rfl) (fun _ _ _ h => h) (Or.inl ⟨by rfl, ?_⟩) (by assumption) ?_
          rotate_left
          · (intro w hSw; (try dsimp only at hSw); go_simp; try with_reducible rfl)
          try simp only [Act.put, List.setIfInBounds_toArray, List.set_cons_zero, List.set_cons_succ]
          refine wpAnyH_done (by kernel_rfl) ?_ _
          go_wp2_with fail
          go_meet
          exact ⟨bz, rfl, rfl, ((unhide HA2).stored _ _).1, ((unhide HA2).stored _ _).2.1, unhide HLG, bel_set (bel_set (unhide hk).bel (unhide HLG)) (unhide HLG)⟩
        · have HA2 := CI.new wz0 0 0 88
          have hlg : wr.heap.size ≤ wz0.heap.size := (unhide hk).bel.size
          have ka := (Below.refl _ wz0).alloc (Nat.le_refl _) (Obj.cells #[.int .i64 0, .int .i64 0] 88)
          have hk := hide ((unhide hk).call ka)
          clear ka
          go_simp
          refine hK.out _ _ (unhide hk) (fun hHeld => ?_)
          clear hK K
          try simp only [Act.put, List.setIfInBounds_toArray, List.set_cons_zero, List.set_cons_succ]
          clear hHeld
          generalize hg : wz0.alloc (Obj.cells #[.int .i64 0, .int .i64 0] 88) = wz1 at HA2 hk ⊢
          clear hg
          have hHeld := unhide hk
          generalize wz0.heap.size = bz at HA2 hlg ⊢
          have HA2 := hide HA2
          have HLG := hide hlg
          clear hlg
          refine wpAnyH_ready (rs := [8]) (by kernel_rfl) (by simp) ?_
          refine AllReadyH.cons (i := 8) (o := { dst := some 54, op := Op.call { callee := Callee.value (Operand.func 60), args := #[Operand.tmp 49, Operand.tmp 53], argTypes := #[88, 88] }, type := 89, pos := "l06_bounds.go:111", after := #[{ on := 3, ground := Ground.data }, { on := 7, ground := Ground.data }], guard := none }) rfl (fun K hK => ?_) AllReadyH.nil
          go_simp
          refine (sIvMeet_c _ _ _ _ _).mono ?_
          rintro e wz2 ⟨rfl, hb⟩
          have hk := hide ((unhide hk).call hb)
          have HA2 := hide ((unhide HA2).call hb)
          clear hb
          refine hK.out _ _ (unhide hk) (fun hHeld => ?_)
          clear hK K
          try simp only [Act.put, List.setIfInBounds_toArray, List.set_cons_zero, List.set_cons_succ]
          refine wpAnyH_take (i := 9) (oi := { dst := some 45, op := Op.move (Operand.tmp 54), type := 89, pos := "l06_bounds.go:111", after := #[{ on := 8, ground := Ground.data }], guard := none }) (v := ?_) rfl (by kernel_rfl) (by kernel_rfl) (by kernel_rfl) (fun _ _ _ h => h) (Or.inl ⟨by rfl, ?_⟩) (by assumption) ?_
          rotate_left
          · (intro w hSw; (try dsimp only at hSw); go_simp; try with_reducible rfl)
          try simp only [Act.put, List.setIfInBounds_toArray, List.set_cons_zero, List.set_cons_succ]
          refine wpAnyH_take (i := 10) (oi := { dst := some 55, op := Op.extract (Operand.tmp 45) 0, type := 88, pos := "l06_bounds.go:111", after := #[{ on := 9, ground := Ground.data }], guard := none }) (v := ?_) rfl (by kernel_rfl) (by kernel_rfl) (by kernel_rfl) (fun _ _ _ h => h) (Or.inl ⟨by rfl, ?_⟩) (by assumption) ?_
          rotate_left
          · (intro w hSw; (try dsimp only at hSw); go_simp; try with_reducible rfl)
          try simp only [Act.put, List.setIfInBounds_toArray, List.set_cons_zero, List.set_cons_succ]
          refine wpAnyH_take (i := 11) (oi := { dst := some 56, op := Op.extract (Operand.tmp 45) 1, type := 4, pos := "l06_bounds.go:111", after := #[{ on := 9, ground := Ground.data }, { on := 13, ground := Ground.gcOnly Departure.lateStores }], guard := none }) (v := ?_) rfl (by kernel_rfl) (by kernel_rfl) (by kernel_rfl) (fun _ _ _ h => h) (Or.inl ⟨by rfl, ?_⟩) (by assumption) ?_
          rotate_left
          · (intro w hSw; (try dsimp only at hSw); go_simp; try with_reducible rfl)
          try simp only [Act.put, List.setIfInBounds_toArray, List.set_cons_zero, List.set_cons_succ]
          refine wpAnyH_ready (rs := [13]) (by kernel_rfl) (by simp) ?_
          refine AllReadyH.cons (i := 13) (o := { dst := none, op := Op.store 88 (Operand.tmp 11) (Operand.tmp 55), type := 0, pos := "l06_bounds.go:111", after := #[{ on := 12, ground := Ground.data }, { on := 10, ground := Ground.data }, { on := 8, ground := Ground.chain }, { on := 0, ground := Ground.phase }, { on := 1, ground := Ground.phase }, { on := 2, ground := Ground.phase }, { on := 3, ground := Ground.phase }, { on := 4, ground := Ground.phase }, { on := 5, ground := Ground.phase }, { on := 6, ground := Ground.phase }, { on := 7, ground := Ground.phase }, { on := 8, ground := Ground.phase }, { on := 9, ground := Ground.phase }, { on := 10, ground := Ground.phase }, { on := 11, ground := Ground.textOnly Departure.lateStores }, { on := 12, ground := Ground.phase }], guard := none }) rfl (fun K hK => ?_) AllReadyH.nil
          obtain ⟨c0, c1_, cf, _⟩ := unhide HA2
          have f0 := cf 0
          have f1 := cf 1
          clear cf
          go_simp
          refine hK.out _ _ ?_ (fun hHeld => ?_)
          · exact SJ.of (unhide (unhide hk).2.2.2.2).1 (bel_set (bel_set (unhide hk).bel (unhide HLG)) (unhide HLG))
          clear hK K c0 c1_ f0 f1
          try simp only [Act.put, List.setIfInBounds_toArray, List.set_cons_zero, List.set_cons_succ]
          refine wpAnyH_take (i := 14) (oi := { dst := some 12, op := Op.assign (Operand.tmp 56), type := 4, pos := "l06_bounds.go:111", after := #[{ on := 11, ground := Ground.data }, { on := 13, ground := Ground.chain }, { on := 0, ground := Ground.phase }, { on := 1, ground := Ground.phase }, { on := 2, ground := Ground.phase }, { on := 3, ground := Ground.phase }, { on := 4, ground := Ground.phase }, { on := 5, ground := Ground.phase }, { on := 6, ground := Ground.phase }, { on := 7, ground := Ground.phase }, { on := 8, ground := Ground.phase }, { on := 9, ground := Ground.phase }, { on := 10, ground := Ground.phase }, { on := 11, ground := Ground.phase }, { on := 12, ground := Ground.phase }, { on := 13, ground := Ground.phase }], guard := none }) (v := ?_) rfl (by kernel_rfl) (by kernel_rfl) (by kernel_rfl) (fun _ _ _ h => h) (Or.inl ⟨by rfl, ?_⟩) (by assumption) ?_
          rotate_left
          · (intro w hSw; (try dsimp only at hSw); go_simp; try with_reducible rfl)
          try simp only [Act.put, List.setIfInBounds_toArray, List.set_cons_zero, List.set_cons_succ]
          refine wpAnyH_done (by kernel_rfl) ?_ _
          go_wp2_with fail
          go_meet
          exact ⟨bz, rfl, rfl, ((unhide HA2).stored _ _).1, ((unhide HA2).stored _ _).2.1, unhide HLG, bel_set (bel_set (unhide hk).bel (unhide HLG)) (unhide HLG)⟩
      case rest =>
        obtain ⟨b, rfl, rfl, m0, m1, hbz, hbel⟩ := hcut
        have HO := hide (own_call (unhide HO) hbel)
        have HD := hide ((unhide HD).trans (hbel.mono zw))
        clear hbel p1 p2 p3 p4
        cases hm : meetB x y x2 y2
        · have hno : metL vs fs rs true xs ys true xs2 ys2 = false := by rw [unhide HN]; exact unhide HF1 hm
          have HNO := hide (And.intro hno (metV_no hno))
          have HB := hide ((unhide HB).call (unhide HD))
          clear hno hm
          have r0 := (unhide HB).2.1
          have r1 := (unhide HB).2.2.1
          have r2 := (unhide HB).2.2.2.1
          have f0 := (unhide HB).2.2.2.2 0
          have f1 := (unhide HB).2.2.2.2 1
          have f2 := (unhide HB).2.2.2.2 2
          go_wp2
          exact bodyPost_ret (v := .agg #[.bool false, .slice none 0 0, .slice none 0 0]) (by simp [results, Tryd.results23, go_sem, r0, r1, r2]) rfl ⟨none, 0, none, 0, by rw [(unhide HNO).1, (unhide HNO).2]; rfl, by rw [(unhide HNO).2]; exact rows_nil _ _, (((unhide HB).bel.setCell (by first | exact Nat.le_add_right _ _ | (simp; done) | (simp; omega)) _).setCell (by first | exact Nat.le_add_right _ _ | (simp; done) | (simp; omega)) _).setCell (by first | exact Nat.le_add_right _ _ | (simp; done) | (simp; omega)) _⟩
        · have HG2 := hide (unhide HG hm)
          clear hm HG HF1
          have zw2 := (unhide HD).size
          go_wp2_with (at_builtin; refine wpList_app _ rfl _ _ 42 rfl u4.heap.size 88 inf (.agg #[.int .i64 0, .int .i64 0]) 2 16 Tryd.underlying42 hi hz0 hz1 hz2 rfl (by decide) _ _ _ rfl ((unhide HO).alloc _) ⟨_, 0, none⟩ 1 1 [.int .i64 (meetL x y x2 y2), .int .i64 (meetH x y x2 y2)] rfl rfl (World.news_of_block (heap_alloc_new _ _)) (one2 _ _) (by unfold maxLen; omega) (by omega) (by simp; omega) ?_; intro oa' cap' w3 hown hgrow)
          obtain ⟨g', rfl⟩ := own_atJ hown (by omega)
          rw [unhide HT] at hown
          have ha := (unhide HD).alloc (unhide HD).size (Obj.cells #[.int .i64 (meetL x y x2 y2), .int .i64 (meetH x y x2 y2)] 88)
          exact ⟨⟨k + 1, g', cap', by omega, by go_num, rfl, hown, unhide HG2, ha.grown hgrow ha.size (fun j hj => (((unhide HO).alloc (Obj.cells #[.int .i64 (meetL x y x2 y2), .int .i64 (meetH x y x2 y2)] 88)).lt j hj).1)⟩, by simp [intOf]; omega⟩
    · obtain rfl : L = k := by omega
      have HOC := own_capJ (unhide HO)
      have hyes : metL vs fs rs true xs ys true xs2 ys2 = true := by rw [unhide HN]; exact decide_eq_true (fun j hj h2 => unhide HA j hj h2 (by have := unhide HN1; omega))
      have HYES := hide (And.intro hyes (metV_yes hyes))
      have HIV := hide (show Ivs wr (some ⟨g, 0, none⟩) (List.zipWith mt xs xs2 ++ List.zipWith mt ys ys2) by
        have h := unhide HO
        rw [List.take_of_length_le (by rw [List.length_zipWith, ← unhide HN1, ← unhide HM]; omega), unhide HXY] at h
        exact (Ivs.ofOwn h (by omega)).2)
      have z5 : w.heap.size + 3 < wr.heap.size := Nat.lt_of_lt_of_le z3 hb.size
      have HB := hide ((unhide HB).call hb)
      clear hb HO HD HR2 HR3 hyes
      have p1 := (unhide HB).1.2.1.2.1
      go_wp2_with fail
      have hof := l6Of_c g cp L (List.zipWith mt xs xs2) (List.zipWith mt ys ys2) wr (unhide HIV) (by have := unhide HXL; have := unhide HLE; omega) (by have := unhide HXL; have := unhide HLE; omega) (by have := unhide HXL; have := unhide HLE; omega)
      rw [(unhide HXL).1, (unhide HXL).2] at hof
      refine hof.mono ?_
      rintro e u6 ⟨oc, cc, od, cd, rfl, hrows, kb⟩
      have HB := hide ((unhide HB).call kb)
      have HRW := hide hrows
      clear kb hrows p1 hof
      have r0 := (unhide HB).2.1
      have r1 := (unhide HB).2.2.1
      have r2 := (unhide HB).2.2.2.1
      have f0 := (unhide HB).2.2.2.2 0
      have f1 := (unhide HB).2.2.2.2 1
      have f2 := (unhide HB).2.2.2.2 2
      go_wp2
      exact bodyPost_ret (v := .agg #[.bool true, .slice oc xs.length cc, .slice od ys.length cd]) (by simp [results, Tryd.results23, go_sem, r0, r1, r2]) rfl ⟨oc, cc, od, cd, by rw [(unhide HYES).1, (unhide HYES).2, show (List.zipWith mt xs xs2, List.zipWith mt ys ys2).1.length = xs.length from (unhide HXL).1, show (List.zipWith mt xs xs2, List.zipWith mt ys ys2).2.length = ys.length from (unhide HXL).2], by rw [(unhide HYES).2]; exact ((((unhide HRW).set (b := w.heap.size + 3) z5).set (b := w.heap.size + 3) z5).set (b := w.heap.size + 3) z5).down (B' := w.heap.size) (by omega), (((unhide HB).bel.setCell (by first | exact Nat.le_add_right _ _ | (simp; done) | (simp; omega)) _).setCell (by first | exact Nat.le_add_right _ _ | (simp; done) | (simp; omega)) _).setCell (by first | exact Nat.le_add_right _ _ | (simp; done) | (simp; omega)) _⟩
end Go.Proofs.YtgjlbekkifiinaaDoor
