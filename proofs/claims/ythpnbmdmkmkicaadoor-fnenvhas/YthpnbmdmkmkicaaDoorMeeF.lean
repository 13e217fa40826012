/- The meet of bounds: the program's function. -/
import Derived.Test.YthpnbmdmkmkicaaDoorMeZ
namespace Go.Proofs.YthpnbmdmkmkicaaDoor
open Go.RowKit
set_option linter.unusedSimpArgs false
set_option linter.unusedVariables false

/-- Five cells stay. -/
@[reducible] def SM5 (w0 : World) (a1 a2 a3 a4 a5 : Addr) (v1 v2 v3 v4 v5 : Value) (u : World) : Prop := u.cell? a1 = some v1 ∧ u.cell? a2 = some v2 ∧ u.cell? a3 = some v3 ∧ u.cell? a4 = some v4 ∧ u.cell? a5 = some v5 ∧ Hid ((w0.cell? a1 = some v1 ∧ w0.cell? a2 = some v2 ∧ w0.cell? a3 = some v3 ∧ w0.cell? a4 = some v4 ∧ w0.cell? a5 = some v5) ∧ Below w0.heap.size w0 u)
theorem SM5.of {w0 u : World} {a1 a2 a3 a4 a5 : Addr} {v1 v2 v3 v4 v5 : Value} (c : w0.cell? a1 = some v1 ∧ w0.cell? a2 = some v2 ∧ w0.cell? a3 = some v3 ∧ w0.cell? a4 = some v4 ∧ w0.cell? a5 = some v5) (k : Below w0.heap.size w0 u) : SM5 w0 a1 a2 a3 a4 a5 v1 v2 v3 v4 v5 u :=
  ⟨(k.cell (World.block_lt_of_cell? _ _ c.1)).trans c.1, (k.cell (World.block_lt_of_cell? _ _ c.2.1)).trans c.2.1, (k.cell (World.block_lt_of_cell? _ _ c.2.2.1)).trans c.2.2.1, (k.cell (World.block_lt_of_cell? _ _ c.2.2.2.1)).trans c.2.2.2.1, (k.cell (World.block_lt_of_cell? _ _ c.2.2.2.2)).trans c.2.2.2.2, hide ⟨c, k⟩⟩
theorem SM5.bel {w0 u : World} {a1 a2 a3 a4 a5 : Addr} {v1 v2 v3 v4 v5 : Value} (h : SM5 w0 a1 a2 a3 a4 a5 v1 v2 v3 v4 v5 u) : Below w0.heap.size w0 u := (unhide h.2.2.2.2.2).2
theorem SM5.drew {w0 u : World} {a1 a2 a3 a4 a5 : Addr} {v1 v2 v3 v4 v5 : Value} (h : SM5 w0 a1 a2 a3 a4 a5 v1 v2 v3 v4 v5 u) : SM5 w0 a1 a2 a3 a4 a5 v1 v2 v3 v4 v5 u.drew := SM5.of (unhide h.2.2.2.2.2).1 h.bel.drew
theorem SM5.call {w0 u v : World} {a1 a2 a3 a4 a5 : Addr} {v1 v2 v3 v4 v5 : Value} (kb : Below u.heap.size u v) (h : SM5 w0 a1 a2 a3 a4 a5 v1 v2 v3 v4 v5 u) : SM5 w0 a1 a2 a3 a4 a5 v1 v2 v3 v4 v5 v := SM5.of (unhide h.2.2.2.2.2).1 (h.bel.trans (kb.mono h.bel.size))
set_option maxRecDepth 20000 in
set_option maxHeartbeats 4000000 in
theorem iEnvMeet_c (a1 a2 a3 : Option Addr) (c1 c2 c3 : Nat) (vs fs : List ByteArray) (rs : List (ByteArray × Int)) (li : Bool) (e1 e2 : Option Addr) (d1 d2 : Nat) (xs ys : List (Int × Int)) (lj : Bool) (e3 e4 : Option Addr) (d3 d4 : Nat) (xs2 ys2 : List (Int × Int)) (w : World) (hw : KW w) (hv : Strs w a1 vs) (hf : Strs w a2 fs) (hr : Arrs w a3 rs)
    (hz : ∀ x ∈ namesOf vs fs rs, x.size ≤ 1048576) (hx : Ivs w e1 xs) (hy : Ivs w e2 ys) (hx2 : Ivs w e3 xs2) (hy2 : Ivs w e4 ys2) :
    Calls Tryd.prog 15 #[.agg #[.slice a1 vs.length c1, .slice a2 fs.length c2, .slice a3 rs.length c3], .agg #[.bool li, .slice e1 xs.length d1, .slice e2 ys.length d2], .agg #[.bool lj, .slice e3 xs2.length d3, .slice e4 ys2.length d4]] w
    fun e w' => ∃ oa ca ob cb, e = .returned (.agg #[.bool (metL vs fs rs li xs ys lj xs2 ys2), .slice oa (metV vs fs rs li xs ys lj xs2 ys2).1.length ca, .slice ob (metV vs fs rs li xs ys lj xs2 ys2).2.length cb]) ∧ RowsE w' w.heap.size oa ca ob cb (metV vs fs rs li xs ys lj xs2 ys2).1 (metV vs fs rs li xs ys lj xs2 ys2).2 ∧ Below w.heap.size w w' := by
  have HW := hide hw
  have HV := hide hv
  have HF := hide hf
  have HR := hide hr
  have HZ := hide hz
  have HX := hide hx
  have HY := hide hy
  have HX2 := hide hx2
  have HY2 := hide hy2
  have HB := hide (Q5.new w (.slice a1 vs.length c1) (.slice a2 fs.length c2) (.slice a3 rs.length c3) (.bool li) (.slice e1 xs.length d1) (.slice e2 ys.length d2) (.bool lj) (.slice e3 xs2.length d3) (.slice e4 ys2.length d4) 27 30 30 30)
  clear hw hv hf hr hz hx hy hx2 hy2
  go_enter Tryd.func15, Tryd.ntmps15
  go_wp2_with fail
  generalize (((w.alloc (Obj.cells #[.slice a1 vs.length c1, .slice a2 fs.length c2, .slice a3 rs.length c3] 27)).alloc (Obj.cells #[.bool li, .slice e1 xs.length d1, .slice e2 ys.length d2] 30)).alloc (Obj.cells #[.bool lj, .slice e3 xs2.length d3, .slice e4 ys2.length d4] 30)).alloc (Obj.cells #[.bool false, .slice none 0 0, .slice none 0 0] 30) = u at HB ⊢
  refine (iEnvOk_c a1 a2 a3 c1 c2 c3 vs fs rs li e1 e2 d1 d2 xs ys _ ((unhide HW).call (unhide HB).bel) ((unhide HV).call (unhide HB).bel) ((unhide HF).call (unhide HB).bel) ((unhide HR).call (unhide HB).bel) (unhide HZ) ((unhide HX).call (unhide HB).bel) ((unhide HY).call (unhide HB).bel)).mono ?_
  rintro e u1 ⟨rfl, kb⟩
  have HB := hide ((unhide HB).call kb)
  clear kb
  have r0 := (unhide HB).2.1
  have r1 := (unhide HB).2.2.1
  have r2 := (unhide HB).2.2.2.1
  have f0 := (unhide HB).2.2.2.2 0
  have f1 := (unhide HB).2.2.2.2 1
  have f2 := (unhide HB).2.2.2.2 2
  cases h1 : envB vs fs rs li xs ys
  · have hno : metL vs fs rs li xs ys lj xs2 ys2 = false := by unfold metL; rw [h1]; simp
    have HN := hide (And.intro hno (metV_no hno))
    clear hno
    clear h1
    go_wp2
    rw [(unhide HN).1, (unhide HN).2]
    exact bodyPost_ret (v := .agg #[.bool false, .slice none 0 0, .slice none 0 0]) (by simp [results, Tryd.results15, go_sem, r0, r1, r2]) rfl ⟨none, 0, none, 0, rfl, rows_nil _ _, (((unhide HB).bel.setCell (by first | exact Nat.le_add_right _ _ | (simp; done) | (simp; omega)) _).setCell (by first | exact Nat.le_add_right _ _ | (simp; done) | (simp; omega)) _).setCell (by first | exact Nat.le_add_right _ _ | (simp; done) | (simp; omega)) _⟩
  have H1 := hide h1
  clear h1
  have p0 := (unhide HB).1.1.1
  have p1 := (unhide HB).1.1.2.1
  have p2 := (unhide HB).1.1.2.2.1
  have s0 := (unhide HB).1.2.2.1.1
  have s1 := (unhide HB).1.2.2.1.2.1
  have s2 := (unhide HB).1.2.2.1.2.2.1
  clear r0 r1 r2 f0 f1 f2
  go_wp2_with fail
  refine (iEnvOk_c a1 a2 a3 c1 c2 c3 vs fs rs lj e3 e4 d3 d4 xs2 ys2 _ ((unhide HW).call (unhide HB).bel) ((unhide HV).call (unhide HB).bel) ((unhide HF).call (unhide HB).bel) ((unhide HR).call (unhide HB).bel) (unhide HZ) ((unhide HX2).call (unhide HB).bel) ((unhide HY2).call (unhide HB).bel)).mono ?_
  rintro e u2 ⟨rfl, kb⟩
  have HB := hide ((unhide HB).call kb)
  clear kb p0 p1 p2 s0 s1 s2
  have r0 := (unhide HB).2.1
  have r1 := (unhide HB).2.2.1
  have r2 := (unhide HB).2.2.2.1
  have f0 := (unhide HB).2.2.2.2 0
  have f1 := (unhide HB).2.2.2.2 1
  have f2 := (unhide HB).2.2.2.2 2
  have q0 := (unhide HB).1.2.1.1
  cases h2 : envB vs fs rs lj xs2 ys2
  · have hno : metL vs fs rs li xs ys lj xs2 ys2 = false := by unfold metL; rw [h2]; simp
    have HN := hide (And.intro hno (metV_no hno))
    clear hno
    clear h2
    go_wp2
    rw [(unhide HN).1, (unhide HN).2]
    exact bodyPost_ret (v := .agg #[.bool false, .slice none 0 0, .slice none 0 0]) (by simp [results, Tryd.results15, go_sem, r0, r1, r2]) rfl ⟨none, 0, none, 0, rfl, rows_nil _ _, (((unhide HB).bel.setCell (by first | exact Nat.le_add_right _ _ | (simp; done) | (simp; omega)) _).setCell (by first | exact Nat.le_add_right _ _ | (simp; done) | (simp; omega)) _).setCell (by first | exact Nat.le_add_right _ _ | (simp; done) | (simp; omega)) _⟩
  have H2 := hide h2
  clear h2
  cases li
  · have hno : metL vs fs rs false xs ys lj xs2 ys2 = false := by unfold metL; simp
    have HN := hide (And.intro hno (metV_no hno))
    clear hno
    go_wp2
    rw [(unhide HN).1, (unhide HN).2]
    exact bodyPost_ret (v := .agg #[.bool false, .slice none 0 0, .slice none 0 0]) (by simp [results, Tryd.results15, go_sem, r0, r1, r2]) rfl ⟨none, 0, none, 0, rfl, rows_nil _ _, (((unhide HB).bel.setCell (by first | exact Nat.le_add_right _ _ | (simp; done) | (simp; omega)) _).setCell (by first | exact Nat.le_add_right _ _ | (simp; done) | (simp; omega)) _).setCell (by first | exact Nat.le_add_right _ _ | (simp; done) | (simp; omega)) _⟩
  have s0 := (unhide HB).1.2.2.1.1
  cases lj
  · have hno : metL vs fs rs true xs ys false xs2 ys2 = false := by unfold metL; simp
    have HN := hide (And.intro hno (metV_no hno))
    clear hno
    go_wp2
    rw [(unhide HN).1, (unhide HN).2]
    exact bodyPost_ret (v := .agg #[.bool false, .slice none 0 0, .slice none 0 0]) (by simp [results, Tryd.results15, go_sem, r0, r1, r2]) rfl ⟨none, 0, none, 0, rfl, rows_nil _ _, (((unhide HB).bel.setCell (by first | exact Nat.le_add_right _ _ | (simp; done) | (simp; omega)) _).setCell (by first | exact Nat.le_add_right _ _ | (simp; done) | (simp; omega)) _).setCell (by first | exact Nat.le_add_right _ _ | (simp; done) | (simp; omega)) _⟩
  have HN := hide (metL_both (unhide H1) (unhide H2))
  have HS1 := hide (env_small (unhide H1))
  have HS2 := hide (env_small (unhide H2))
  have HLE := hide (env_lens (unhide H1) (unhide H2) rfl rfl)
  clear r0 r1 r2 f0 f1 f2
  go_wp2_with fail
  refine (copied_c (w.heap.size + 1) true e1 e2 d1 d2 xs ys _ (unhide HB).1.2.1 ((unhide HX).call (unhide HB).bel) ((unhide HY).call (unhide HB).bel) (by have := unhide HS1; omega)).mono ?_
  rintro e u3 ⟨oa, ca, ob, cb, rfl, hrows, kb⟩
  have z3 : w.heap.size + 3 < u2.heap.size := (unhide HB).2.lt
  have zs : u2.heap.size ≤ u3.heap.size := kb.size
  have HTA : Hid ((∀ x, oa = some x → x.block < u3.heap.size) ∧ (∀ x, ob = some x → x.block < u3.heap.size)) := ⟨fun x hx => (hrows.1.lt x.block (by rw [hx]; rfl)).2, fun x hx => (hrows.2.1.lt x.block (by rw [hx]; rfl)).2⟩
  have ka := (Below.refl _ u3).alloc (Nat.le_refl _) (Obj.cells #[.bool true, .slice oa xs.length ca, .slice ob ys.length cb] 30)
  have HB := hide (((unhide HB).call kb).call ka)
  have HRW := hide (hrows.call ka)
  have HE := hide (C3.new u3 (.bool true) (.slice oa xs.length ca) (.slice ob ys.length cb) 30)
  obtain ⟨g1, ha1⟩ := hrows.at1
  obtain ⟨g2, ha2⟩ := hrows.at2
  have HA1 := hide ha1
  have HA2 := hide ha2
  clear ha1 ha2 hrows kb ka q0 s0
  obtain ⟨B, hBB⟩ : ∃ B, B = u2.heap.size := ⟨_, rfl⟩
  rw [← hBB] at HRW z3 zs
  clear hBB
  obtain ⟨X, hX⟩ : ∃ X, X = u3.heap.size := ⟨_, rfl⟩
  obtain ⟨u4, hz⟩ : ∃ z, z = u3.alloc (Obj.cells #[.bool true, .slice oa xs.length ca, .slice ob ys.length cb] 30) := ⟨_, rfl⟩
  have hs4 : u4.heap.size = X + 1 := by rw [hz, hX]; simp
  rw [← hX, ← hz] at HE
  rw [← hz] at HB HRW
  rw [← hX] at HTA zs
  have hXZ := hide (And.intro hX hz)
  clear hX hz
  go_upto_region 4 with fail
  rw [← (unhide hXZ).1, ← (unhide hXZ).2]
  clear hXZ
  go_wp2_with fail
  refine (intervals_c (w.heap.size + 2) true e3 e4 d3 d4 xs2.length ys2.length _ (unhide HX2).atN (unhide HY2).atN (unhide HB).1.2.2.1 (by have := unhide HS2; omega)).mono ?_
  rintro e u5 ⟨qa, qc, rfl, hown, kb⟩
  have HB := hide ((unhide HB).call kb)
  have HRW := hide ((unhide HRW).call kb)
  have HE := hide ((unhide HE).call kb)
  rw [hs4] at hown
  have HO2 := hide hown
  have hs5 : X + 1 ≤ u5.heap.size := by have := kb.size; omega
  clear kb hown hs4
  go_wp2_with fail
  refine (intervalsR_c X true oa ob g1 g2 ca cb xs.length ys.length (unhide HA1) (unhide HA2) _ (unhide HE) (by have := unhide HS1; omega)).mono ?_
  rintro e u6 ⟨pa, pc, rfl, hown, kb⟩
  have HB := hide ((unhide HB).call kb)
  have HRW := hide ((unhide HRW).call kb)
  have HE := hide ((unhide HE).call kb)
  have HO2 := hide (own_call (unhide HO2) kb)
  have HO := hide (own_down hown hs5)
  clear kb hown hs5
  have HC := hide (unhide HB).2
  have HK := hide (unhide HB).bel
  obtain ⟨L, hL⟩ : ∃ L, L = xs.length + ys.length := ⟨_, rfl⟩
  have HL := hide (show L = xs2.length + ys2.length ∧ L = xs.length + ys.length ∧ L ≤ 7 by have := unhide HLE; have := unhide HS1; omega)
  rw [← hL] at HO ⊢
  rw [show xs2.length + ys2.length = L from (unhide HL).1.symm] at HO2 ⊢
  have hL7 : (L : Int) ≤ 7 := by have := unhide HL; omega
  clear hL
  have HZT := hide (show (xs ++ ys).length = (xs2 ++ ys2).length by have := unhide HLE; simp; omega)
  go_wp2
  go_loopw [38] (fun i wr => ∃ (k : Nat) (xs' ys' : List (Int × Int)), k ≤ L ∧ i = .int .i64 k ∧ xs'.length = xs.length ∧ ys'.length = ys.length ∧ xs' ++ ys' = updM (xs ++ ys) (xs2 ++ ys2) k ∧ (∀ j, (h : j < (xs ++ ys).length) → (h2 : j < (xs2 ++ ys2).length) → j < k → meetB (xs ++ ys)[j].1 (xs ++ ys)[j].2 (xs2 ++ ys2)[j].1 (xs2 ++ ys2)[j].2 = true) ∧ RowsE wr B oa ca ob cb xs' ys' ∧ wr.ownsRow (X + 1) 83 1 (.slice pa L pc) L (cellsP (ptrsB g1 xs.length ++ ptrsB g2 ys.length)) ∧ wr.ownsRow (X + 1) 83 1 (.slice qa L qc) L (cellsP (ptrsN e3 xs2.length ++ ptrsN e4 ys2.length)) ∧ C3 wr X (.bool true) (.slice oa xs.length ca) (.slice ob ys.length cb) ∧ C3 wr (w.heap.size + 3) (.bool false) (.slice none 0 0) (.slice none 0 0) ∧ Below w.heap.size w wr) (fun i _ => L - (intOf i).toNat)
  case atStart => exact ⟨0, xs, ys, Nat.zero_le _, rfl, rfl, rfl, (updM_zero _ _).symm, fun j _ _ h => absurd h (Nat.not_lt_zero _), unhide HRW, unhide HO, unhide HO2, unhide HE, unhide HC, unhide HK⟩
  case round =>
    clear HRW HO HO2 HE HC HK HB
    obtain ⟨k, xs', ys', hk, rfl, hx1, hy1, hup, hall, hrw, ho, ho2, he, hc, hb⟩ := hrel
    have HX1 := hide hx1
    have HY1 := hide hy1
    have HUP := hide hup
    have HA := hide hall
    have HRW := hide hrw
    have HO := hide ho
    have HO2 := hide ho2
    have HE := hide he
    have HC := hide hc
    have HK := hide hb
    clear hx1 hy1 hup hrw ho ho2 he hc hb hall
    by_cases hlt : k < L
    · have hkZ : k < (xs ++ ys).length := by have := unhide HL; simp; omega
      have hkT : k < (xs2 ++ ys2).length := by have := unhide HL; simp; omega
      have hkU : k < (xs' ++ ys').length := by have := unhide HL; have := unhide HX1; have := unhide HY1; simp; omega
      have HG := hide (show meetB (xs ++ ys)[k].1 (xs ++ ys)[k].2 (xs2 ++ ys2)[k].1 (xs2 ++ ys2)[k].2 = true → ∀ j, (h : j < (xs ++ ys).length) → (h2 : j < (xs2 ++ ys2).length) → j < k + 1 → meetB (xs ++ ys)[j].1 (xs ++ ys)[j].2 (xs2 ++ ys2)[j].1 (xs2 ++ ys2)[j].2 = true from fun e j h h2 hj => by
        by_cases q : j = k
        · subst q; exact e
        · exact unhide HA j h h2 (by omega))
      have HF1 := hide (show meetB (xs ++ ys)[k].1 (xs ++ ys)[k].2 (xs2 ++ ys2)[k].1 (xs2 ++ ys2)[k].2 = false → decide (metP (xs ++ ys) (xs2 ++ ys2)) = false from fun e => decide_eq_false (fun h => by have := h k hkZ hkT; rw [e] at this; cases this))
      -- where the other interval stands
      obtain ⟨pb2, po2, hp2, y0, y1⟩ := ptrs_cells ((unhide HX2).call (unhide HK)) ((unhide HY2).call (unhide HK)) k hkT
      have hPt2 := (Ptrs.ofOwn (unhide HO2) (by have := unhide HL; omega)).2
      rcases hPt2.2 with h0 | ⟨qb, qo, rfl, hq⟩
      · rw [List.length_append, ptrsN_len, ptrsN_len] at h0; rw [List.length_append] at hkT; omega
      have c2 := hq k (by simp [ptrsN_len, ptrsB_len]; simp at hkT; omega)
      have hp2' : (ptrsN e3 xs2.length ++ ptrsN e4 ys2.length)[k]'(by simp [ptrsN_len, ptrsB_len]; simp at hkT; omega) = ⟨pb2, po2, none⟩ := by
        have := hp2
        rw [List.getElem?_eq_getElem (by simp [ptrsN_len, ptrsB_len]; simp at hkT; omega)] at this
        exact Option.some.inj this
      rw [hp2'] at c2
      -- where the own one stands
      obtain ⟨pb, po, hp1, hor, hB1, hB2, t0, t1, tf, _⟩ := (unhide HRW).writeAt (g1 := g1) (g2 := g2) (by rw [unhide HX1]; exact unhide HA1) (by rw [unhide HY1]; exact unhide HA2) k hkU (0, 0)
      have hPt1 := (Ptrs.ofOwn (unhide HO) (by have := unhide HL; omega)).2
      rcases hPt1.2 with h0 | ⟨rb, ro, rfl, hq1⟩
      · rw [List.length_append, ptrsB_len, ptrsB_len] at h0; rw [List.length_append] at hkZ; omega
      have c1 := hq1 k (by simp [ptrsN_len, ptrsB_len]; simp at hkZ; omega)
      have hp1' : (ptrsB g1 xs.length ++ ptrsB g2 ys.length)[k]'(by simp [ptrsN_len, ptrsB_len]; simp at hkZ; omega) = ⟨pb, po, none⟩ := by
        have := hp1
        rw [unhide HX1, unhide HY1] at this
        rw [List.getElem?_eq_getElem (by simp [ptrsN_len, ptrsB_len]; simp at hkZ; omega)] at this
        exact Option.some.inj this
      rw [hp1'] at c1
      have hv : (xs' ++ ys')[k] = (xs ++ ys)[k] := (List.getElem_of_eq (unhide HUP) hkU).trans (updM_at (xs ++ ys) (xs2 ++ ys2) k (unhide HZT) hkZ)
      rw [hv] at t0 t1
      have HP1 := hide hp1
      have HOR := hide hor
      clear hq hq1 hPt1 hPt2 hp2 hp2' hp1 hp1' hor hv tf
      obtain ⟨x, hxx⟩ : ∃ x, x = (xs ++ ys)[k].1 := ⟨_, rfl⟩
      obtain ⟨y, hyy⟩ : ∃ y, y = (xs ++ ys)[k].2 := ⟨_, rfl⟩
      obtain ⟨x2, hxx2⟩ : ∃ x, x = (xs2 ++ ys2)[k].1 := ⟨_, rfl⟩
      obtain ⟨y2, hyy2⟩ : ∃ y, y = (xs2 ++ ys2)[k].2 := ⟨_, rfl⟩
      rw [← hxx] at t0
      rw [← hyy] at t1
      rw [← hxx2] at y0
      rw [← hyy2] at y1
      rw [← hxx, ← hyy, ← hxx2, ← hyy2] at HG HF1
      have HXX := hide (show mt (xs ++ ys)[k] (xs2 ++ ys2)[k] = (meetL x y x2 y2, meetH x y x2 y2) by unfold mt; rw [hxx, hyy, hxx2, hyy2])
      clear hxx hyy hxx2 hyy2
      have hlt' : (k : Int) < (L : Int) := by omega
      have HPX : Hid (pb < X ∧ w.heap.size + 3 < pb) := by
        rcases unhide HOR with q | q
        · exact ⟨(unhide HTA).1 _ q, by omega⟩
        · exact ⟨(unhide HTA).2 _ q, by omega⟩
      clear hB1 hB2
      go_upto_region 8 with fail
      go_cut [11, 12] (fun p q wc => ∃ b, p = .pointer (some ⟨b, 0, none⟩) ∧ q = .bool (meetB x y x2 y2) ∧ wc.cell? ⟨b, 0, none⟩ = some (.int .i64 (meetL x y x2 y2)) ∧ wc.cell? ⟨b, 1, none⟩ = some (.int .i64 (meetH x y x2 y2)) ∧ wr.heap.size ≤ b ∧ Below wr.heap.size wr wc)
      case first =>
          have hk := hide (SM5.drew (SM5.of (w0 := wr) ⟨t0, t1, y0, y1, c2⟩ (Below.refl _ _)))
          clear t0 t1 y0 y1 c2
          obtain ⟨wz0, hw0⟩ : ∃ x, x = wr.drew := ⟨_, rfl⟩
          rw [← hw0] at hk
          refine wp_region_held_drew (S := (SM5 wr ⟨pb, po, none⟩ ⟨pb, po + 1, none⟩ ⟨pb2, po2, none⟩ ⟨pb2, po2 + 1, none⟩ ⟨qb, qo + k, none⟩ (.int .i64 x) (.int .i64 y) (.int .i64 x2) (.int .i64 y2) (.pointer (some ⟨pb2, po2, none⟩)))) (by kernel_rfl) (by rw [← hw0]; exact unhide hk) (fun hHeld => ?_)
          rw [← hw0] at hHeld ⊢
          clear hw0
          refine wpAnyH_take (i := 0) (oi := { dst := some 44, op := Op.move (Operand.tmp 10), type := 83, pos := "l06_bounds.go:31", after := #[], guard := none }) (v := ?_) rfl (by kernel_rfl) (by kernel_rfl) (by kernel_rfl) (fun _ _ _ h => h) (Or.inl ⟨by rfl, ?_⟩) (by assumption) ?_
          rotate_left
          · (intro w hSw; (try dsimp only at hSw); go_simp; try with_reducible rfl)
          try simp only [Act.put, List.setIfInBounds_toArray, List.set_cons_zero, List.set_cons_succ]
          refine wpAnyH_take (i := 1) (oi := { dst := some 45, op := Op.nilCheck (Operand.tmp 44), type := 0, pos := "l06_bounds.go:31", after := #[{ on := 0, ground := Ground.data }], guard := none }) (v := ?_) rfl (by kernel_rfl) (by kernel_rfl) (by kernel_rfl) (fun _ _ _ h => h) (Or.inl ⟨by rfl, ?_⟩) (by assumption) ?_
          rotate_left
          · (intro w hSw; (try dsimp only at hSw); go_simp; try with_reducible rfl)
          try simp only [Act.put, List.setIfInBounds_toArray, List.set_cons_zero, List.set_cons_succ]
          refine wpAnyH_take (i := 2) (oi := { dst := some 46, op := Op.load 47 (Operand.tmp 45), type := 47, pos := "l06_bounds.go:31", after := #[{ on := 1, ground := Ground.data }], guard := none }) (v := ?_) rfl (by kernel_rfl) (by kernel_rfl) (by kernel_rfl) (fun _ _ _ h => h) (Or.inl ⟨by rfl, ?_⟩) (by assumption) ?_
          rotate_left
          · (intro w hSw; (try dsimp only at hSw); go_simp; try with_reducible rfl)
          try simp only [Act.put, List.setIfInBounds_toArray, List.set_cons_zero, List.set_cons_succ]
          refine wpAnyH_take (i := 3) (oi := { dst := some 47, op := Op.move (Operand.tmp 8), type := 81, pos := "l06_bounds.go:31", after := #[], guard := none }) (v := ?_) rfl (by kernel_rfl) (by kernel_rfl) (by kernel_rfl) (fun _ _ _ h => h) (Or.inl ⟨by rfl, ?_⟩) (by assumption) ?_
          rotate_left
          · (intro w hSw; (try dsimp only at hSw); go_simp; try with_reducible rfl)
          try simp only [Act.put, List.setIfInBounds_toArray, List.set_cons_zero, List.set_cons_succ]
          refine wpAnyH_take (i := 4) (oi := { dst := some 48, op := Op.move (Operand.tmp 9), type := 3, pos := "l06_bounds.go:31", after := #[], guard := none }) (v := ?_) rfl (by kernel_rfl) (by kernel_rfl) (by kernel_rfl) (fun _ _ _ h => h) (Or.inl ⟨by rfl, ?_⟩) (by assumption) ?_
          rotate_left
          · (intro w hSw; (try dsimp only at hSw); go_simp; try with_reducible rfl)
          try simp only [Act.put, List.setIfInBounds_toArray, List.set_cons_zero, List.set_cons_succ]
          refine wpAnyH_take (i := 5) (oi := { dst := some 49, op := Op.indexAddr 81 (Operand.tmp 47) (Operand.tmp 48), type := 0, pos := "l06_bounds.go:31", after := #[{ on := 3, ground := Ground.data }, { on := 4, ground := Ground.data }], guard := none }) (v := ?_) rfl (by kernel_rfl) (by kernel_rfl) (by kernel_rfl) (fun _ _ _ h => h) (Or.inl ⟨by rfl, ?_⟩) (by assumption) ?_
          rotate_left
          · (intro w hSw; (try dsimp only at hSw); go_simp; try with_reducible rfl)
          try simp only [Act.put, List.setIfInBounds_toArray, List.set_cons_zero, List.set_cons_succ]
          refine wpAnyH_take (i := 6) (oi := { dst := some 50, op := Op.load 83 (Operand.tmp 49), type := 83, pos := "l06_bounds.go:31", after := #[{ on := 5, ground := Ground.data }], guard := none }) (v := ?_) rfl (by kernel_rfl) (by kernel_rfl) (by kernel_rfl) (fun _ _ _ h => h) (Or.inl ⟨by rfl, ?_⟩) (by assumption) ?_
          rotate_left
          · (intro w hSw; (try dsimp only at hSw); go_simp; try with_reducible rfl)
          try simp only [Act.put, List.setIfInBounds_toArray, List.set_cons_zero, List.set_cons_succ]
          refine wpAnyH_take (i := 7) (oi := { dst := some 51, op := Op.nilCheck (Operand.tmp 50), type := 0, pos := "l06_bounds.go:31", after := #[{ on := 6, ground := Ground.data }], guard := none }) (v := ?_) rfl (by kernel_rfl) (by kernel_rfl) (by kernel_rfl) (fun _ _ _ h => h) (Or.inl ⟨by rfl, ?_⟩) (by assumption) ?_
          rotate_left
          · (intro w hSw; (try dsimp only at hSw); go_simp; try with_reducible rfl)
          try simp only [Act.put, List.setIfInBounds_toArray, List.set_cons_zero, List.set_cons_succ]
          refine wpAnyH_take (i := 8) (oi := { dst := some 52, op := Op.load 47 (Operand.tmp 51), type := 47, pos := "l06_bounds.go:31", after := #[{ on := 7, ground := Ground.data }], guard := none }) (v := ?_) rfl (by kernel_rfl) (by kernel_rfl) (by kernel_rfl) (fun _ _ _ h => h) (Or.inl ⟨by rfl, ?_⟩) (by assumption) ?_
          rotate_left
          · (intro w hSw; (try dsimp only at hSw); go_simp; try with_reducible rfl)
          try simp only [Act.put, List.setIfInBounds_toArray, List.set_cons_zero, List.set_cons_succ]
          refine wpAnyH_ready (rs := [9, 13]) (by kernel_rfl) (by simp) ?_
          refine AllReadyH.cons (i := 9) (o := { dst := some 53, op := Op.call { callee := Callee.value (Operand.func 48), args := #[Operand.tmp 46, Operand.tmp 52], argTypes := #[47, 47] }, type := 84, pos := "l06_bounds.go:31", after := #[{ on := 2, ground := Ground.data }, { on := 8, ground := Ground.data }], guard := none }) rfl (fun K hK => ?_) (AllReadyH.cons (i := 13) (o := { dst := some 11, op := Op.alloc 47, type := 0, pos := "l06_bounds.go:31", after := #[], guard := none }) rfl (fun K hK => ?_) AllReadyH.nil)
          · go_simp
            refine (IvMeet_c _ _ _ _ _).mono ?_
            rintro e wz1 ⟨rfl, hb⟩
            have hk := hide ((unhide hk).call hb)
            clear hb
            refine hK.out _ _ (unhide hk) (fun hHeld => ?_)
            clear hK K
            try simp only [Act.put, List.setIfInBounds_toArray, List.set_cons_zero, List.set_cons_succ]
            refine wpAnyH_take (i := 10) (oi := { dst := some 43, op := Op.move (Operand.tmp 53), type := 84, pos := "l06_bounds.go:31", after := #[{ on := 9, ground := Ground.data }], guard := none }) (v := ?_) rfl (by kernel_rfl) (by kernel_rfl) (by kernel_rfl) (fun _ _ _ h => h) (Or.inl ⟨by rfl, ?_⟩) (by assumption) ?_
            rotate_left
            · (intro w hSw; (try dsimp only at hSw); go_simp; try with_reducible rfl)
            try simp only [Act.put, List.setIfInBounds_toArray, List.set_cons_zero, List.set_cons_succ]
            refine wpAnyH_take (i := 11) (oi := { dst := some 54, op := Op.extract (Operand.tmp 43) 0, type := 47, pos := "l06_bounds.go:31", after := #[{ on := 10, ground := Ground.data }], guard := none }) (v := ?_) rfl (by kernel_rfl) (by kernel_rfl) (by kernel_rfl) (fun _ _ _ h => h) (Or.inl ⟨by rfl, ?_⟩) (by assumption) ?_
            rotate_left
            · (intro w hSw; (try dsimp only at hSw); go_simp; try with_reducible rfl)
            try simp only [Act.put, List.setIfInBounds_toArray, List.set_cons_zero, List.set_cons_succ]
            refine wpAnyH_take (i := 12) (oi := { dst := some 55, op := Op.extract (Operand.tmp 43) 1, type := 4, pos := "l06_bounds.go:31", after := #[{ on := 10, ground := Ground.data }, { on := 14, ground := Ground.gcOnly Departure.lateStores }], guard := none }) (v := ?_) rfl (by kernel_rfl) (by kernel_rfl) (by kernel_rfl) (fun _ _ _ h => h) (Or.inl ⟨by rfl, ?_⟩) (by assumption) ?_
            rotate_left
            · (intro w hSw; (try dsimp only at hSw); go_simp; try with_reducible rfl)
            try simp only [Act.put, List.setIfInBounds_toArray, List.set_cons_zero, List.set_cons_succ]
            refine wpAnyH_ready (rs := [13]) (by kernel_rfl) (by simp) ?_
            refine AllReadyH.cons (i := 13) (o := { dst := some 11, op := Op.alloc 47, type := 0, pos := "l06_bounds.go:31", after := #[], guard := none }) rfl (fun K hK => ?_) AllReadyH.nil
            have HA2 := CI.new wz1 0 0 47
            have hlg : wr.heap.size ≤ wz1.heap.size := (unhide hk).bel.size
            have ka := (Below.refl _ wz1).alloc (Nat.le_refl _) (Obj.cells #[.int .i64 0, .int .i64 0] 47)
            have hk := hide ((unhide hk).call ka)
            clear ka
            go_simp
            refine hK.out _ _ (unhide hk) (fun hHeld => ?_)
            clear hK K
            try simp only [Act.put, List.setIfInBounds_toArray, List.set_cons_zero, List.set_cons_succ]
            clear hHeld
            generalize hg : wz1.alloc (Obj.cells #[.int .i64 0, .int .i64 0] 47) = wz2 at HA2 hk ⊢
            clear hg
            have hHeld := unhide hk
            generalize wz1.heap.size = bz at HA2 hlg ⊢
            have HA2 := hide HA2
            have HLG := hide hlg
            clear hlg
            refine wpAnyH_ready (rs := [14]) (by kernel_rfl) (by simp) ?_
            refine AllReadyH.cons (i := 14) (o := { dst := none, op := Op.store 47 (Operand.tmp 11) (Operand.tmp 54), type := 0, pos := "l06_bounds.go:31", after := #[{ on := 13, ground := Ground.data }, { on := 11, ground := Ground.data }, { on := 9, ground := Ground.chain }, { on := 0, ground := Ground.phase }, { on := 1, ground := Ground.phase }, { on := 2, ground := Ground.phase }, { on := 3, ground := Ground.phase }, { on := 4, ground := Ground.phase }, { on := 5, ground := Ground.phase }, { on := 6, ground := Ground.phase }, { on := 7, ground := Ground.phase }, { on := 8, ground := Ground.phase }, { on := 9, ground := Ground.phase }, { on := 10, ground := Ground.phase }, { on := 11, ground := Ground.phase }, { on := 12, ground := Ground.textOnly Departure.lateStores }, { on := 13, ground := Ground.phase }], guard := none }) rfl (fun K hK => ?_) AllReadyH.nil
            obtain ⟨c0, c1_, cf, _⟩ := unhide HA2
            have f0 := cf 0
            have f1 := cf 1
            clear cf
            go_simp
            refine hK.out _ _ ?_ (fun hHeld => ?_)
            · exact SM5.of (unhide (unhide hk).2.2.2.2.2).1 (bel_set (bel_set (unhide hk).bel (unhide HLG)) (unhide HLG))
            clear hK K c0 c1_ f0 f1
            try simp only [Act.put, List.setIfInBounds_toArray, List.set_cons_zero, List.set_cons_succ]
            refine wpAnyH_take (i := 15) (oi := { dst := some 12, op := Op.assign (Operand.tmp 55), type := 4, pos := "l06_bounds.go:31", after := #[{ on := 12, ground := Ground.data }, { on := 14, ground := Ground.chain }, { on := 0, ground := Ground.phase }, { on := 1, ground := Ground.phase }, { on := 2, ground := Ground.phase }, { on := 3, ground := Ground.phase }, { on := 4, ground := Ground.phase }, { on := 5, ground := Ground.phase }, { on := 6, ground := Ground.phase }, { on := 7, ground := Ground.phase }, { on := 8, ground := Ground.phase }, { on := 9, ground := Ground.phase }, { on := 10, ground := Ground.phase }, { on := 11, ground := Ground.phase }, { on := 12, ground := Ground.phase }, { on := 13, ground := Ground.phase }, { on := 14, ground := Ground.phase }], guard := none }) (v := ?_) rfl (by kernel_rfl) (by kernel_rfl) (by kernel_rfl) (fun _ _ _ h => h) (Or.inl ⟨by rfl, ?_⟩) (by assumption) ?_
            rotate_left
            · (intro w hSw; (try dsimp only at hSw); go_simp; try with_reducible rfl)
            try simp only [Act.put, List.setIfInBounds_toArray, List.set_cons_zero, List.set_cons_succ]
            refine wpAnyH_done (by kernel_rfl) ?_ _
            go_wp2_with fail
            go_meet
            exact ⟨bz, rfl, rfl, ((unhide HA2).stored _ _).1, ((unhide HA2).stored _ _).2.1, unhide HLG, bel_set (bel_set (unhide hk).bel (unhide HLG)) (unhide HLG)⟩
          · have HA2 := CI.new wz0 0 0 47
            have hlg : wr.heap.size ≤ wz0.heap.size := (unhide hk).bel.size
            have ka := (Below.refl _ wz0).alloc (Nat.le_refl _) (Obj.cells #[.int .i64 0, .int .i64 0] 47)
            have hk := hide ((unhide hk).call ka)
            clear ka
            go_simp
            refine hK.out _ _ (unhide hk) (fun hHeld => ?_)
            clear hK K
            try simp only [Act.put, List.setIfInBounds_toArray, List.set_cons_zero, List.set_cons_succ]
            clear hHeld
            generalize hg : wz0.alloc (Obj.cells #[.int .i64 0, .int .i64 0] 47) = wz1 at HA2 hk ⊢
            clear hg
            have hHeld := unhide hk
            generalize wz0.heap.size = bz at HA2 hlg ⊢
            have HA2 := hide HA2
            have HLG := hide hlg
            clear hlg
            refine wpAnyH_ready (rs := [9]) (by kernel_rfl) (by simp) ?_
            refine AllReadyH.cons (i := 9) (o := { dst := some 53, op := Op.call { callee := Callee.value (Operand.func 48), args := #[Operand.tmp 46, Operand.tmp 52], argTypes := #[47, 47] }, type := 84, pos := "l06_bounds.go:31", after := #[{ on := 2, ground := Ground.data }, { on := 8, ground := Ground.data }], guard := none }) rfl (fun K hK => ?_) AllReadyH.nil
            go_simp
            refine (IvMeet_c _ _ _ _ _).mono ?_
            rintro e wz2 ⟨rfl, hb⟩
            have hk := hide ((unhide hk).call hb)
            have HA2 := hide ((unhide HA2).call hb)
            clear hb
            refine hK.out _ _ (unhide hk) (fun hHeld => ?_)
            clear hK K
            try simp only [Act.put, List.setIfInBounds_toArray, List.set_cons_zero, List.set_cons_succ]
            refine wpAnyH_take (i := 10) (oi := { dst := some 43, op := Op.move (Operand.tmp 53), type := 84, pos := "l06_bounds.go:31", after := #[{ on := 9, ground := Ground.data }], guard := none }) (v := ?_) rfl (by kernel_rfl) (by kernel_rfl) (by kernel_rfl) (fun _ _ _ h => h) (Or.inl ⟨by rfl, ?_⟩) (by assumption) ?_
            rotate_left
            · (intro w hSw; (try dsimp only at hSw); go_simp; try with_reducible rfl)
            try simp only [Act.put, List.setIfInBounds_toArray, List.set_cons_zero, List.set_cons_succ]
            refine wpAnyH_take (i := 11) (oi := { dst := some 54, op := Op.extract (Operand.tmp 43) 0, type := 47, pos := "l06_bounds.go:31", after := #[{ on := 10, ground := Ground.data }], guard := none }) (v := ?_) rfl (by kernel_rfl) (by kernel_rfl) (by kernel_rfl) (fun _ _ _ h => h) (Or.inl ⟨by rfl, ?_⟩) (by assumption) ?_
            rotate_left
            · (intro w hSw; (try dsimp only at hSw); go_simp; try with_reducible rfl)
            try simp only [Act.put, List.setIfInBounds_toArray, List.set_cons_zero, List.set_cons_succ]
            refine wpAnyH_take (i := 12) (oi := { dst := some 55, op := Op.extract (Operand.tmp 43) 1, type := 4, pos := "l06_bounds.go:31", after := #[{ on := 10, ground := Ground.data }, { on := 14, ground := Ground.gcOnly Departure.lateStores }], guard := none }) (v := ?_) rfl (by kernel_rfl) (by kernel_rfl) (by kernel_rfl) (fun _ _ _ h => h) (Or.inl ⟨by rfl, ?_⟩) (by assumption) ?_
            rotate_left
            · (intro w hSw; (try dsimp only at hSw); go_simp; try with_reducible rfl)
            try simp only [Act.put, List.setIfInBounds_toArray, List.set_cons_zero, List.set_cons_succ]
            refine wpAnyH_ready (rs := [14]) (by kernel_rfl) (by simp) ?_
            refine AllReadyH.cons (i := 14) (o := { dst := none, op := Op.store 47 (Operand.tmp 11) (Operand.tmp 54), type := 0, pos := "l06_bounds.go:31", after := #[{ on := 13, ground := Ground.data }, { on := 11, ground := Ground.data }, { on := 9, ground := Ground.chain }, { on := 0, ground := Ground.phase }, { on := 1, ground := Ground.phase }, { on := 2, ground := Ground.phase }, { on := 3, ground := Ground.phase }, { on := 4, ground := Ground.phase }, { on := 5, ground := Ground.phase }, { on := 6, ground := Ground.phase }, { on := 7, ground := Ground.phase }, { on := 8, ground := Ground.phase }, { on := 9, ground := Ground.phase }, { on := 10, ground := Ground.phase }, { on := 11, ground := Ground.phase }, { on := 12, ground := Ground.textOnly Departure.lateStores }, { on := 13, ground := Ground.phase }], guard := none }) rfl (fun K hK => ?_) AllReadyH.nil
            obtain ⟨c0, c1_, cf, _⟩ := unhide HA2
            have f0 := cf 0
            have f1 := cf 1
            clear cf
            go_simp
            refine hK.out _ _ ?_ (fun hHeld => ?_)
            · exact SM5.of (unhide (unhide hk).2.2.2.2.2).1 (bel_set (bel_set (unhide hk).bel (unhide HLG)) (unhide HLG))
            clear hK K c0 c1_ f0 f1
            try simp only [Act.put, List.setIfInBounds_toArray, List.set_cons_zero, List.set_cons_succ]
            refine wpAnyH_take (i := 15) (oi := { dst := some 12, op := Op.assign (Operand.tmp 55), type := 4, pos := "l06_bounds.go:31", after := #[{ on := 12, ground := Ground.data }, { on := 14, ground := Ground.chain }, { on := 0, ground := Ground.phase }, { on := 1, ground := Ground.phase }, { on := 2, ground := Ground.phase }, { on := 3, ground := Ground.phase }, { on := 4, ground := Ground.phase }, { on := 5, ground := Ground.phase }, { on := 6, ground := Ground.phase }, { on := 7, ground := Ground.phase }, { on := 8, ground := Ground.phase }, { on := 9, ground := Ground.phase }, { on := 10, ground := Ground.phase }, { on := 11, ground := Ground.phase }, { on := 12, ground := Ground.phase }, { on := 13, ground := Ground.phase }, { on := 14, ground := Ground.phase }], guard := none }) (v := ?_) rfl (by kernel_rfl) (by kernel_rfl) (by kernel_rfl) (fun _ _ _ h => h) (Or.inl ⟨by rfl, ?_⟩) (by assumption) ?_
            rotate_left
            · (intro w hSw; (try dsimp only at hSw); go_simp; try with_reducible rfl)
            try simp only [Act.put, List.setIfInBounds_toArray, List.set_cons_zero, List.set_cons_succ]
            refine wpAnyH_done (by kernel_rfl) ?_ _
            go_wp2_with fail
            go_meet
            exact ⟨bz, rfl, rfl, ((unhide HA2).stored _ _).1, ((unhide HA2).stored _ _).2.1, unhide HLG, bel_set (bel_set (unhide hk).bel (unhide HLG)) (unhide HLG)⟩
      case rest =>
        obtain ⟨b, rfl, rfl, m0, m1, hbz, hbel⟩ := hcut
        clear c1 c2 t0 t1 y0 y1
        cases hm : meetB x y x2 y2
        · have hno : metL vs fs rs true xs ys true xs2 ys2 = false := by rw [unhide HN]; exact unhide HF1 hm
          have HNO := hide (And.intro hno (metV_no hno))
          have HC := hide ((unhide HC).call hbel)
          have HK := hide ((unhide HK).trans (hbel.mono (unhide HK).size))
          clear hno hm hbel
          have r0 := (unhide HC).1
          have r1 := (unhide HC).2.1
          have r2 := (unhide HC).2.2.1
          have f0 := (unhide HC).2.2.2 0
          have f1 := (unhide HC).2.2.2 1
          have f2 := (unhide HC).2.2.2 2
          go_wp2
          exact bodyPost_ret (v := .agg #[.bool false, .slice none 0 0, .slice none 0 0]) (by simp [results, Tryd.results15, go_sem, r0, r1, r2]) rfl ⟨none, 0, none, 0, by rw [(unhide HNO).1, (unhide HNO).2]; rfl, by rw [(unhide HNO).2]; exact rows_nil _ _, (((unhide HK).setCell (by first | exact Nat.le_add_right _ _ | (simp; done) | (simp; omega)) _).setCell (by first | exact Nat.le_add_right _ _ | (simp; done) | (simp; omega)) _).setCell (by first | exact Nat.le_add_right _ _ | (simp; done) | (simp; omega)) _⟩
        · have HG2 := hide (unhide HG hm)
          clear hm HG HF1
          obtain ⟨⟨v0, v1, t3, t4⟩, tf, hJ⟩ := join_step hbel (unhide HRW) (by rw [unhide HX1]; exact unhide HA1) (by rw [unhide HY1]; exact unhide HA2) hkU (unhide HP1) (meetL x y x2 y2, meetH x y x2 y2) (unhide HO) (unhide HO2) (unhide HE) (unhide HC) (unhide HK) (unhide HPX).1 (unhide HPX).2
          have f3 := tf po
          have f4 := tf (po + 1)
          have HJ := hide hJ
          clear tf hJ hbel
          go_wp2
          go_roundw
          case rel =>
            obtain ⟨xs'', ys'', l1, l2, e4, h5, h6, h7, h8, h9, h10⟩ := unhide HJ
            exact ⟨k + 1, xs'', ys'', by omega, by go_num, l1.trans (unhide HX1), l2.trans (unhide HY1), by rw [e4, unhide HUP, ← unhide HXX]; exact updM_set (xs ++ ys) (xs2 ++ ys2) k (unhide HZT) hkZ, unhide HG2, h5, h6, h7, h8, h9, h10⟩
          case measure => simp [intOf]; omega
    · obtain rfl : k = L := by omega
      have hr0 := unhide HRW
      have r0 := (unhide HC).1
      have r1 := (unhide HC).2.1
      have r2 := (unhide HC).2.2.1
      have f0 := (unhide HC).2.2.2 0
      have f1 := (unhide HC).2.2.2 1
      have f2 := (unhide HC).2.2.2 2
      have b0 := (unhide HE).1
      have b1 := (unhide HE).2.1
      have b2 := (unhide HE).2.2.1
      have EX : Hid (xs' = List.zipWith mt xs xs2 ∧ ys' = List.zipWith mt ys ys2) := by
        have hu := unhide HUP
        rw [show k = (xs ++ ys).length by rw [List.length_append]; exact (unhide HL).2.1, updM_all _ _ (unhide HZT), List.zipWith_append (by have := unhide HLE; omega)] at hu
        exact List.append_inj hu (by rw [unhide HX1]; simp; have := unhide HLE; omega)
      have HRZ : Hid (RowsE wr B oa ca ob cb (List.zipWith mt xs xs2) (List.zipWith mt ys ys2)) := by unfold Hid; rw [← (unhide EX).1, ← (unhide EX).2]; exact hr0
      have EL : Hid ((List.zipWith mt xs xs2).length = xs.length ∧ (List.zipWith mt ys ys2).length = ys.length) := by
        rw [← (unhide EX).1, ← (unhide EX).2]
        exact ⟨unhide HX1, unhide HY1⟩
      have hyes : metL vs fs rs true xs ys true xs2 ys2 = true := by rw [unhide HN]; exact decide_eq_true (fun j hj h2 => unhide HA j hj h2 (by have := unhide HL; simp at hj; omega))
      have HYES := hide (And.intro hyes (metV_yes hyes))
      clear hr0 hyes
      go_wp2
      rw [(unhide HYES).1, (unhide HYES).2, show (List.zipWith mt xs xs2, List.zipWith mt ys ys2).1.length = xs.length from (unhide EL).1, show (List.zipWith mt xs xs2, List.zipWith mt ys ys2).2.length = ys.length from (unhide EL).2]
      exact bodyPost_ret (v := .agg #[.bool true, .slice oa xs.length ca, .slice ob ys.length cb]) (by simp [results, Tryd.results15, go_sem, r0, r1, r2]) rfl ⟨oa, ca, ob, cb, rfl, ((((unhide HRZ).set (by omega)).set (by omega)).set (by omega)).down (by omega), (((unhide HK).setCell (by first | exact Nat.le_add_right _ _ | (simp; done) | (simp; omega)) _).setCell (by first | exact Nat.le_add_right _ _ | (simp; done) | (simp; omega)) _).setCell (by first | exact Nat.le_add_right _ _ | (simp; done) | (simp; omega)) _⟩
end Go.Proofs.YthpnbmdmkmkicaaDoor
