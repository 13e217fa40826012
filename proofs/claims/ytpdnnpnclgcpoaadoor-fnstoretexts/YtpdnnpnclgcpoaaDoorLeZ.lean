/- Texts that go together: LeqC, LeqD. -/
import Derived.Test.YtpdnnpnclgcpoaaDoorDoZ
import Derived.Deep.DeepCutAuto
/- One bound within another, as the specification asks for it. -/
namespace Go.Proofs.YtpdnnpnclgcpoaaDoor
open Go.RowKit
set_option linter.unusedSimpArgs false
set_option linter.unusedVariables false

def leqsP (l m : List (Int × Int)) : Prop := ∀ k, (h : k < l.length) → (h2 : k < m.length) → leqB l[k].1 l[k].2 m[k].1 m[k].2 = true
instance (l m : List (Int × Int)) : Decidable (leqsP l m) := by unfold leqsP; infer_instance
/-- Bounds within others, both right. -/
def leqE (l1 l2 : Bool) (z1 z2 : List (Int × Int)) : Bool := !l1 || (l2 && decide (leqsP z1 z2))
/-- A region's condition that calls keep. -/
theorem stay1 {P : World → Prop} (hP : ∀ u v, Below u.heap.size u v → P u → P v) {u : World} (h : P u) : P u.drew := hP _ _ (Below.refl _ _).drew h
set_option maxRecDepth 20000 in
set_option maxHeartbeats 4000000 in
theorem l6Leq_c (li : Bool) (e1 e2 : Option Addr) (d1 d2 : Nat) (xs ys : List (Int × Int)) (lj : Bool) (e3 e4 : Option Addr) (d3 d4 : Nat) (xs2 ys2 : List (Int × Int)) (w : World)
    (hx : Ivs w e1 xs) (hy : Ivs w e2 ys) (hx2 : Ivs w e3 xs2) (hy2 : Ivs w e4 ys2)
    (hl : li = true → lj = true → xs.length = xs2.length ∧ ys.length = ys2.length ∧ xs.length + ys.length ≤ 7) :
    Calls Tryd.prog 96 #[.agg #[.bool li, .slice e1 xs.length d1, .slice e2 ys.length d2], .agg #[.bool lj, .slice e3 xs2.length d3, .slice e4 ys2.length d4]] w
    fun e w' => e = .returned (.bool (leqE li lj (xs ++ ys) (xs2 ++ ys2))) ∧ Below w.heap.size w w' := by
  obtain ⟨r, hr⟩ : ∃ r, leqE li lj (xs ++ ys) (xs2 ++ ys2) = r := ⟨_, rfl⟩
  rw [hr]
  have HRR := hide hr
  clear hr
  have HX := hide hx
  have HY := hide hy
  have HX2 := hide hx2
  have HY2 := hide hy2
  have T0 := (C3.new w (.bool li) (.slice e1 xs.length d1) (.slice e2 ys.length d2) 43).alloc (Obj.cells #[.bool lj, .slice e3 xs2.length d3, .slice e4 ys2.length d4] 43)
  have T1 := C3.new (w.alloc (Obj.cells #[.bool li, .slice e1 xs.length d1, .slice e2 ys.length d2] 43)) (.bool lj) (.slice e3 xs2.length d3) (.slice e4 ys2.length d4) 43
  have K0 : Below w.heap.size w ((w.alloc (Obj.cells #[.bool li, .slice e1 xs.length d1, .slice e2 ys.length d2] 43)).alloc (Obj.cells #[.bool lj, .slice e3 xs2.length d3, .slice e4 ys2.length d4] 43)) := ((Below.refl _ _).alloc (Nat.le_refl _) _).alloc (by simp) _
  rw [show (w.alloc (Obj.cells #[.bool li, .slice e1 xs.length d1, .slice e2 ys.length d2] 43)).heap.size = w.heap.size + 1 by simp] at T1
  have HT0 := hide T0
  have HT1 := hide T1
  have HK := hide K0
  clear T0 T1 K0 hx hy hx2 hy2
  go_enter Tryd.func96, Tryd.ntmps96
  go_upto_region 1 with fail
  generalize (w.alloc (Obj.cells #[.bool li, .slice e1 xs.length d1, .slice e2 ys.length d2] 43)).alloc (Obj.cells #[.bool lj, .slice e3 xs2.length d3, .slice e4 ys2.length d4] 43) = u at HT0 HT1 HK ⊢
  have t0 := (unhide HT0).1
  have t1 := (unhide HT0).2.1
  have t2 := (unhide HT0).2.2.1
  have s0 := (unhide HT1).1
  have s1 := (unhide HT1).2.1
  have s2 := (unhide HT1).2.2.1
  cases li
  · go_wp2
    go_ret
    exact ⟨by rw [← unhide HRR]; rfl, unhide HK⟩
  cases lj
  · go_wp2
    go_ret
    exact ⟨by rw [← unhide HRR]; rfl, unhide HK⟩
  have HL := hide (hl rfl rfl)
  have hL := (hl rfl rfl).2.2
  clear hl
  have HE := hide (show r = decide (leqsP (xs ++ ys) (xs2 ++ ys2)) from (unhide HRR).symm)
  clear HRR
  go_wp2_with fail
  refine (l6List_c true e1 e2 d1 d2 xs ys _ ((unhide HX).call (unhide HK)) ((unhide HY).call (unhide HK)) (by omega)).mono ?_
  rintro e u2 ⟨oa, cap, rfl, R, kb⟩
  have HR2 := hide R
  have HT1 := hide ((unhide HT1).call kb)
  have HK := hide ((unhide HK).trans (kb.mono (unhide HK).size))
  clear R kb t0 t1 t2 s0 s1 s2 HT0
  have s0 := (unhide HT1).1
  have s1 := (unhide HT1).2.1
  have s2 := (unhide HT1).2.2.1
  go_wp2_with fail
  refine (l6List_c true e3 e4 d3 d4 xs2 ys2 _ ((unhide HX2).call (unhide HK)) ((unhide HY2).call (unhide HK)) (by have := unhide HL; omega)).mono ?_
  rintro e u3 ⟨ob, cap2, rfl, R, kb⟩
  have HR3 := hide R
  have HR2 := hide ((unhide HR2).call kb)
  have HK := hide ((unhide HK).trans (kb.mono (unhide HK).size))
  clear R kb s0 s1 s2 HT1 HX HY HX2 HY2
  have HN := hide (show xs.length + ys.length = (xs ++ ys).length by rw [List.length_append])
  have HM := hide (show xs.length + ys.length = (xs2 ++ ys2).length by rw [List.length_append]; have := unhide HL; omega)
  rw [← (unhide HL).1, ← (unhide HL).2.1]
  clear HL
  generalize xs ++ ys = zs at HE HR2 HN ⊢
  generalize xs2 ++ ys2 = zt at HE HR3 HM ⊢
  generalize xs.length + ys.length = L at hL HN HM ⊢
  have hL' : (L : Int) ≤ 7 := by omega
  go_wp2
  go_loopw [7] (fun i wr => ∃ k : Nat, k ≤ L ∧ i = .int .i64 k ∧ (∀ j, (h : j < zs.length) → (h2 : j < zt.length) → j < k → leqB zs[j].1 zs[j].2 zt[j].1 zt[j].2 = true) ∧ Below w.heap.size w wr ∧ Ivs wr oa zs ∧ Ivs wr ob zt) (fun i _ => L - (intOf i).toNat)
  case atStart => exact ⟨0, Nat.zero_le _, rfl, fun j _ _ h => by omega, unhide HK, unhide HR2, unhide HR3⟩
  case round =>
    clear HK HR2 HR3
    obtain ⟨k, hk, rfl, hall, hb, hz, hy⟩ := hrel
    have HA := hide hall
    have HB := hide hb
    have HS := hide hz
    have HV := hide hy
    by_cases hlt : k < L
    · have hk' : k < zs.length := by rw [← unhide HN]; exact hlt
      have hm' : k < zt.length := by rw [← unhide HM]; exact hlt
      rcases hz.2 with h0 | ⟨cb, co, rfl, hc⟩
      · omega
      rcases hy.2 with h0 | ⟨cb2, co2, rfl, hc2⟩
      · omega
      have p1 := (hc k hk').1
      have p2 := (hc k hk').2
      have p3 := (hc2 k hm').1
      have p4 := (hc2 k hm').2
      have HG := hide (show leqB zs[k].1 zs[k].2 zt[k].1 zt[k].2 = true → ∀ j, (h : j < zs.length) → (h2 : j < zt.length) → j < k + 1 → leqB zs[j].1 zs[j].2 zt[j].1 zt[j].2 = true from fun e j h h2 hj => by
        by_cases q : j = k
        · subst q; exact e
        · exact unhide HA j h h2 (by omega))
      have HF1 := hide (show leqB zs[k].1 zs[k].2 zt[k].1 zt[k].2 = false → decide (leqsP zs zt) = false from fun e => decide_eq_false (fun h => by have := h k hk' hm'; rw [e] at this; cases this))
      clear hc hc2 hall hb hz hy
      generalize zs[k].1 = x at p1 HG HF1
      generalize zs[k].2 = y at p2 HG HF1
      generalize zt[k].1 = x2 at p3 HG HF1
      generalize zt[k].2 = y2 at p4 HG HF1
      have hlt' : (k : Int) < (L : Int) := by omega
      have hs : H4 wr ⟨cb, co + k * 2, none⟩ ⟨cb, co + k * 2 + 1, none⟩ ⟨cb2, co2 + k * 2, none⟩ ⟨cb2, co2 + k * 2 + 1, none⟩ (.int .i64 x) (.int .i64 y) (.int .i64 x2) (.int .i64 y2) wr := ⟨p1, p2, p3, p4, Below.refl _ _⟩
      clear p1 p2 p3 p4
      go_wp2_with fail
      go_region_held3 (H4 wr ⟨cb, co + k * 2, none⟩ ⟨cb, co + k * 2 + 1, none⟩ ⟨cb2, co2 + k * 2, none⟩ ⟨cb2, co2 + k * 2 + 1, none⟩ (.int .i64 x) (.int .i64 y) (.int .i64 x2) (.int .i64 y2))
        (first | exact H4.drew (by assumption) | exact H4.call kb hs.drew)
        (first
          | (go_at_call 123; refine (sIvLeq_c _ _ _ _ _).mono ?_; rintro e u3 ⟨rfl, kb⟩))
      have kb2 := (H4.call kb hs.drew).2.2.2.2
      have HB2 := hide ((unhide HB).trans (kb2.mono (unhide HB).size))
      have HS2 := hide ((unhide HS).call kb2)
      have HV2 := hide ((unhide HV).call kb2)
      rename_i hHeld
      clear hHeld kb kb2 hs
      cases ho : leqB x y x2 y2
      · have HN2 := hide (show r = false by rw [unhide HE]; exact unhide HF1 ho)
        clear ho
        go_wp2
        go_ret
        exact ⟨by rw [unhide HN2]; rfl, unhide HB2⟩
      · have HG2 := hide (unhide HG ho)
        clear ho HG HF1
        go_wp2
        go_roundw
        case rel => exact ⟨k + 1, by omega, by go_num, unhide HG2, unhide HB2, unhide HS2, unhide HV2⟩
        case measure => simp [intOf]; omega
    · have HN2 := hide (show r = true by rw [unhide HE]; exact decide_eq_true (fun j hj h2 => unhide HA j hj h2 (by have := unhide HN; omega)))
      clear hall hb hz hy
      go_wp2
      go_ret
      exact ⟨by rw [unhide HN2]; rfl, unhide HB⟩
@[reducible] def H5 (w0 : World) (a1 a2 a3 a4 a5 : Addr) (v1 v2 v3 v4 v5 : Value) (w : World) : Prop := w.cell? a1 = some v1 ∧ w.cell? a2 = some v2 ∧ w.cell? a3 = some v3 ∧ w.cell? a4 = some v4 ∧ w.cell? a5 = some v5 ∧ Below w0.heap.size w0 w
theorem H5.drew {w0 w : World} {a1 a2 a3 a4 a5 : Addr} {v1 v2 v3 v4 v5 : Value} (h : H5 w0 a1 a2 a3 a4 a5 v1 v2 v3 v4 v5 w) : H5 w0 a1 a2 a3 a4 a5 v1 v2 v3 v4 v5 w.drew := ⟨h.1, h.2.1, h.2.2.1, h.2.2.2.1, h.2.2.2.2.1, h.2.2.2.2.2.drew⟩
theorem H5.call {w0 w w1 : World} {a1 a2 a3 a4 a5 : Addr} {v1 v2 v3 v4 v5 : Value} (hb : Below w.heap.size w w1) (h : H5 w0 a1 a2 a3 a4 a5 v1 v2 v3 v4 v5 w) : H5 w0 a1 a2 a3 a4 a5 v1 v2 v3 v4 v5 w1 :=
  ⟨(hb.cell (World.block_lt_of_cell? w _ h.1)).trans h.1, (hb.cell (World.block_lt_of_cell? w _ h.2.1)).trans h.2.1, (hb.cell (World.block_lt_of_cell? w _ h.2.2.1)).trans h.2.2.1, (hb.cell (World.block_lt_of_cell? w _ h.2.2.2.1)).trans h.2.2.2.1, (hb.cell (World.block_lt_of_cell? w _ h.2.2.2.2.1)).trans h.2.2.2.2.1, h.2.2.2.2.2.trans (hb.mono h.2.2.2.2.2.size)⟩
set_option maxRecDepth 20000 in
set_option maxHeartbeats 4000000 in
theorem within_c (b c : Nat) (li : Bool) (e1 e2 : Option Addr) (d1 d2 : Nat) (xs ys : List (Int × Int)) (lj : Bool) (e3 e4 : Option Addr) (d3 d4 : Nat) (xs2 ys2 : List (Int × Int)) (w : World)
    (hb1 : C3 w b (.bool li) (.slice e1 xs.length d1) (.slice e2 ys.length d2)) (hc1 : C3 w c (.bool lj) (.slice e3 xs2.length d3) (.slice e4 ys2.length d4))
    (hx : Ivs w e1 xs) (hy : Ivs w e2 ys) (hx2 : Ivs w e3 xs2) (hy2 : Ivs w e4 ys2)
    (hl : xs.length = xs2.length ∧ ys.length = ys2.length ∧ xs.length + ys.length ≤ 7) :
    Calls Tryd.prog 95 #[.pointer (some ⟨b, 0, none⟩), .pointer (some ⟨c, 0, none⟩)] w
    fun e w' => e = .returned (.bool (decide (leqsP (xs ++ ys) (xs2 ++ ys2)))) ∧ Below w.heap.size w w' := by
  obtain ⟨r, hr⟩ : ∃ r, decide (leqsP (xs ++ ys) (xs2 ++ ys2)) = r := ⟨_, rfl⟩
  rw [hr]
  have HE := hide hr.symm
  have HX := hide hx
  have HY := hide hy
  have HX2 := hide hx2
  have HY2 := hide hy2
  have HE1 := hide hb1
  have HL := hide hl
  have hL := hl.2.2
  have HC1 := hide hc1
  clear hr hx hy hx2 hy2 hb1 hc1 hl
  go_enter Tryd.func95, Tryd.ntmps95
  go_wp2_with fail
  refine (intervals_c c lj e3 e4 d3 d4 xs2.length ys2.length _ (unhide HX2).atN (unhide HY2).atN (unhide HC1) (by have := unhide HL; omega)).mono ?_
  rintro e u1 ⟨ob, cap2, rfl, ho, kb⟩
  have HS2 := hide (Ptrs.ofOwn ho (by have := unhide HL; omega)).2
  have HE1 := hide ((unhide HE1).call kb)
  have HB := hide kb
  clear ho kb HC1
  go_wp2_with fail
  refine (intervals_c b li e1 e2 d1 d2 xs.length ys.length _ (unhide HX).atN (unhide HY).atN (unhide HE1) (by omega)).mono ?_
  rintro e u2 ⟨oa, cap, rfl, ho, kb⟩
  have HS := hide (Ptrs.ofOwn ho (by omega)).2
  have HS2 := hide ((unhide HS2).call kb)
  have HB := hide ((unhide HB).trans (kb.mono (unhide HB).size))
  have HP := hide (ptrs_cells ((unhide HX).call (unhide HB)) ((unhide HY).call (unhide HB)))
  have HP2 := hide (ptrs_cells ((unhide HX2).call (unhide HB)) ((unhide HY2).call (unhide HB)))
  have HN := hide (show xs.length + ys.length = (xs ++ ys).length by rw [List.length_append])
  have HN2 := hide (show xs.length + ys.length = (xs2 ++ ys2).length by rw [List.length_append]; have := unhide HL; omega)
  have HM := hide (show (ptrsN e1 xs.length ++ ptrsN e2 ys.length).length = (xs ++ ys).length by rw [List.length_append, List.length_append, ptrsN_len, ptrsN_len])
  have HM2 := hide (show (ptrsN e3 xs2.length ++ ptrsN e4 ys2.length).length = (xs2 ++ ys2).length by rw [List.length_append, List.length_append, ptrsN_len, ptrsN_len])
  have HL2 := hide (show xs2.length + ys2.length = xs.length + ys.length by have := unhide HL; omega)
  clear ho kb HX HY HX2 HY2 HE1 HL
  rw [unhide HL2]
  clear HL2
  generalize ptrsN e1 xs.length ++ ptrsN e2 ys.length = ps at HS HP HM
  generalize ptrsN e3 xs2.length ++ ptrsN e4 ys2.length = pt at HS2 HP2 HM2
  generalize xs ++ ys = zs at HE HP HN HM
  generalize xs2 ++ ys2 = zt at HE HP2 HN2 HM2
  generalize xs.length + ys.length = L at hL HN HN2 ⊢
  have hL' : (L : Int) ≤ 7 := by omega
  go_wp2
  go_loopw [13] (fun i wr => ∃ k : Nat, k ≤ L ∧ i = .int .i64 k ∧ (∀ j, (h : j < zs.length) → (h2 : j < zt.length) → j < k → leqB zs[j].1 zs[j].2 zt[j].1 zt[j].2 = true) ∧ Below u2.heap.size u2 wr) (fun i _ => L - (intOf i).toNat)
  case atStart => exact ⟨0, Nat.zero_le _, rfl, fun j _ _ h => by omega, Below.refl _ _⟩
  case round =>
    obtain ⟨k, hk, rfl, hall, hb⟩ := hrel
    have HA := hide hall
    have HB2 := hide hb
    by_cases hlt : k < L
    · have hk' : k < zs.length := by rw [← unhide HN]; exact hlt
      have hm' : k < zt.length := by rw [← unhide HN2]; exact hlt
      have hp' : k < ps.length := by rw [unhide HM]; exact hk'
      have hq' : k < pt.length := by rw [unhide HM2]; exact hm'
      rcases ((unhide HS).call hb).2 with h0 | ⟨cb, co, rfl, hc⟩
      · omega
      rcases ((unhide HS2).call hb).2 with h0 | ⟨cb2, co2, rfl, hc2⟩
      · omega
      obtain ⟨pb, po, hpe, hp1, hp2⟩ := unhide HP k hk'
      rw [List.getElem?_eq_getElem hp', Option.some.injEq] at hpe
      have c1 := hc k hp'
      rw [hpe] at c1
      obtain ⟨qb, qo, hqe, hq1, hq2⟩ := unhide HP2 k hm'
      rw [List.getElem?_eq_getElem hq', Option.some.injEq] at hqe
      have c2 := hc2 k hq'
      rw [hqe] at c2
      have hs : H5 wr ⟨pb, po, none⟩ ⟨pb, po + 1, none⟩ ⟨cb2, co2 + k, none⟩ ⟨qb, qo, none⟩ ⟨qb, qo + 1, none⟩ (.int .i64 zs[k].1) (.int .i64 zs[k].2) (.pointer (some ⟨qb, qo, none⟩)) (.int .i64 zt[k].1) (.int .i64 zt[k].2) wr :=
        ⟨(hb.cell (World.block_lt_of_cell? u2 _ hp1)).trans hp1, (hb.cell (World.block_lt_of_cell? u2 _ hp2)).trans hp2, c2, (hb.cell (World.block_lt_of_cell? u2 _ hq1)).trans hq1, (hb.cell (World.block_lt_of_cell? u2 _ hq2)).trans hq2, Below.refl _ _⟩
      have HG := hide (show leqB zs[k].1 zs[k].2 zt[k].1 zt[k].2 = true → ∀ j, (h : j < zs.length) → (h2 : j < zt.length) → j < k + 1 → leqB zs[j].1 zs[j].2 zt[j].1 zt[j].2 = true from fun e j h h2 hj => by
        by_cases q : j = k
        · subst q; exact e
        · exact unhide HA j h h2 (by omega))
      have HF1 := hide (show leqB zs[k].1 zs[k].2 zt[k].1 zt[k].2 = false → decide (leqsP zs zt) = false from fun e => decide_eq_false (fun h => by have := h k hk' hm'; rw [e] at this; cases this))
      clear hc hc2 hall hb hp1 hp2 hpe hq1 hq2 hqe c2
      generalize zs[k].1 = x at hs HG HF1
      generalize zs[k].2 = y at hs HG HF1
      generalize zt[k].1 = x2 at hs HG HF1
      generalize zt[k].2 = y2 at hs HG HF1
      have hlt' : (k : Int) < (L : Int) := by omega
      have HH := hide hs
      clear hs
      go_wp2_with fail
      have hs := unhide HH
      clear c1
      go_region_held3 (H5 wr ⟨pb, po, none⟩ ⟨pb, po + 1, none⟩ ⟨cb2, co2 + k, none⟩ ⟨qb, qo, none⟩ ⟨qb, qo + 1, none⟩ (.int .i64 x) (.int .i64 y) (.pointer (some ⟨qb, qo, none⟩)) (.int .i64 x2) (.int .i64 y2))
        (first | exact H5.drew (by assumption) | exact H5.call kb hs.drew)
        (first
          | (go_at_call 122; refine (IvLeq_c _ _ _ _ _).mono ?_; rintro e u3 ⟨rfl, kb⟩))
      have kb2 := (H5.call kb hs.drew).2.2.2.2.2
      have HB3 := hide ((unhide HB2).trans (kb2.mono (unhide HB2).size))
      rename_i hHeld
      clear hHeld kb kb2 hs HH
      cases ho : leqB x y x2 y2
      · have HN2 := hide (show r = false by rw [unhide HE]; exact unhide HF1 ho)
        have HB4 := hide ((unhide HB).trans ((unhide HB3).mono (unhide HB).size))
        clear ho
        go_wp2
        go_ret
        exact ⟨by rw [unhide HN2]; rfl, unhide HB4⟩
      · have HG2 := hide (unhide HG ho)
        clear ho HG HF1
        go_wp2
        go_roundw
        case rel => exact ⟨k + 1, by omega, by go_num, unhide HG2, unhide HB3⟩
        case measure => simp [intOf]; omega
    · have HN2 := hide (show r = true by rw [unhide HE]; exact decide_eq_true (fun j hj h2 => unhide HA j hj h2 (by have := unhide HN; omega)))
      have HB4 := hide ((unhide HB).trans (hb.mono (unhide HB).size))
      clear hall hb
      go_wp2
      go_ret
      exact ⟨by rw [unhide HN2]; rfl, unhide HB4⟩
end Go.Proofs.YtpdnnpnclgcpoaaDoor

/- One bound within another: the functions. -/
namespace Go.Proofs.YtpdnnpnclgcpoaaDoor
open Go.RowKit
set_option linter.unusedSimpArgs false
set_option linter.unusedVariables false

/-- Three structs of three cells side by side; below all is as it was. -/
def B3 (w0 : World) (b : Nat) (x0 y0 z0 x1 y1 z1 x2 y2 z2 : Value) (u : World) : Prop := C3 u b x0 y0 z0 ∧ C3 u (b + 1) x1 y1 z1 ∧ C3 u (b + 2) x2 y2 z2 ∧ Below w0.heap.size w0 u
theorem B3.call {w0 u v : World} {b : Nat} {x0 y0 z0 x1 y1 z1 x2 y2 z2 : Value} (h : B3 w0 b x0 y0 z0 x1 y1 z1 x2 y2 z2 u) (hb : Below u.heap.size u v) : B3 w0 b x0 y0 z0 x1 y1 z1 x2 y2 z2 v :=
  ⟨h.1.call hb, h.2.1.call hb, h.2.2.1.call hb, h.2.2.2.trans (hb.mono h.2.2.2.size)⟩
theorem B3.new (w : World) (x0 y0 z0 x1 y1 z1 x2 y2 z2 : Value) (t0 t1 t2 : TypeId) : B3 w w.heap.size x0 y0 z0 x1 y1 z1 x2 y2 z2 (((w.alloc (Obj.cells #[x0, y0, z0] t0)).alloc (Obj.cells #[x1, y1, z1] t1)).alloc (Obj.cells #[x2, y2, z2] t2)) := by
  have T0 := ((C3.new w x0 y0 z0 t0).alloc (Obj.cells #[x1, y1, z1] t1)).alloc (Obj.cells #[x2, y2, z2] t2)
  have T1 := (C3.new (w.alloc (Obj.cells #[x0, y0, z0] t0)) x1 y1 z1 t1).alloc (Obj.cells #[x2, y2, z2] t2)
  have T2 := C3.new ((w.alloc (Obj.cells #[x0, y0, z0] t0)).alloc (Obj.cells #[x1, y1, z1] t1)) x2 y2 z2 t2
  rw [show (w.alloc (Obj.cells #[x0, y0, z0] t0)).heap.size = w.heap.size + 1 by simp] at T1
  rw [show ((w.alloc (Obj.cells #[x0, y0, z0] t0)).alloc (Obj.cells #[x1, y1, z1] t1)).heap.size = w.heap.size + 2 by simp] at T2
  exact ⟨T0, T1, T2, (((Below.refl _ _).alloc (Nat.le_refl _) _).alloc (by simp) _).alloc (by simp; omega) _⟩
theorem env_len {vs fs : List ByteArray} {rs : List (ByteArray × Int)} {li : Bool} {xs ys : List (Int × Int)} (h : envB vs fs rs li xs ys = true) : li = true → xs.length = vs.length ∧ ys.length = rs.length ∧ vs.length ≤ 5 ∧ rs.length ≤ 2 := by
  intro hl
  subst hl
  unfold envB at h
  rw [Bool.and_eq_true] at h
  have h1 := declB_len h.1
  have h2 := of_decide_eq_true h.2
  rcases h2 with ⟨h3, _⟩ | ⟨_, h3, h4, _⟩
  · cases h3
  · exact ⟨h3, h4, h1.1, h1.2.2⟩
theorem env_lens {vs fs : List ByteArray} {rs : List (ByteArray × Int)} {li lj : Bool} {xs ys xs2 ys2 : List (Int × Int)} (h : envB vs fs rs li xs ys = true) (h2 : envB vs fs rs lj xs2 ys2 = true) : li = true → lj = true → xs.length = xs2.length ∧ ys.length = ys2.length ∧ xs.length + ys.length ≤ 7 := by
  intro a b
  have := env_len h a
  have := env_len h2 b
  omega
def leqD (vs fs : List ByteArray) (rs : List (ByteArray × Int)) (li : Bool) (xs ys : List (Int × Int)) (lj : Bool) (xs2 ys2 : List (Int × Int)) : Bool := envB vs fs rs li xs ys && (envB vs fs rs lj xs2 ys2 && leqE li lj (xs ++ ys) (xs2 ++ ys2))
set_option maxRecDepth 20000 in
set_option maxHeartbeats 4000000 in
theorem iEnvLeq_c (a1 a2 a3 : Option Addr) (c1 c2 c3 : Nat) (vs fs : List ByteArray) (rs : List (ByteArray × Int)) (li : Bool) (e1 e2 : Option Addr) (d1 d2 : Nat) (xs ys : List (Int × Int)) (lj : Bool) (e3 e4 : Option Addr) (d3 d4 : Nat) (xs2 ys2 : List (Int × Int)) (w : World) (hw : KW w) (hv : Strs w a1 vs) (hf : Strs w a2 fs) (hr : Arrs w a3 rs)
    (hz : ∀ x ∈ namesOf vs fs rs, x.size ≤ 1048576) (hx : Ivs w e1 xs) (hy : Ivs w e2 ys) (hx2 : Ivs w e3 xs2) (hy2 : Ivs w e4 ys2) :
    Calls Tryd.prog 55 #[.agg #[.slice a1 vs.length c1, .slice a2 fs.length c2, .slice a3 rs.length c3], .agg #[.bool li, .slice e1 xs.length d1, .slice e2 ys.length d2], .agg #[.bool lj, .slice e3 xs2.length d3, .slice e4 ys2.length d4]] w
    fun e w' => e = .returned (.bool (leqD vs fs rs li xs ys lj xs2 ys2)) ∧ Below w.heap.size w w' := by
  obtain ⟨r, hrr⟩ : ∃ r, leqD vs fs rs li xs ys lj xs2 ys2 = r := ⟨_, rfl⟩
  rw [hrr]
  have HRR := hide hrr
  have HV := hide hv
  have HF := hide hf
  have HR := hide hr
  have HZ := hide hz
  have HX := hide hx
  have HY := hide hy
  have HX2 := hide hx2
  have HY2 := hide hy2
  have HW := hide hw
  clear hw
  have HB := hide (B3.new w (.slice a1 vs.length c1) (.slice a2 fs.length c2) (.slice a3 rs.length c3) (.bool li) (.slice e1 xs.length d1) (.slice e2 ys.length d2) (.bool lj) (.slice e3 xs2.length d3) (.slice e4 ys2.length d4) 27 43 43)
  clear hrr hv hf hr hz hx hy hx2 hy2
  go_enter Tryd.func55, Tryd.ntmps55
  go_wp2_with fail
  generalize ((w.alloc (Obj.cells #[.slice a1 vs.length c1, .slice a2 fs.length c2, .slice a3 rs.length c3] 27)).alloc (Obj.cells #[.bool li, .slice e1 xs.length d1, .slice e2 ys.length d2] 43)).alloc (Obj.cells #[.bool lj, .slice e3 xs2.length d3, .slice e4 ys2.length d4] 43) = u at HB ⊢
  refine (iEnvOk_c a1 a2 a3 c1 c2 c3 vs fs rs li e1 e2 d1 d2 xs ys _ ((unhide HW).call (unhide HB).2.2.2) ((unhide HV).call (unhide HB).2.2.2) ((unhide HF).call (unhide HB).2.2.2) ((unhide HR).call (unhide HB).2.2.2) (unhide HZ) ((unhide HX).call (unhide HB).2.2.2) ((unhide HY).call (unhide HB).2.2.2)).mono ?_
  rintro e u1 ⟨rfl, kb⟩
  have HB := hide ((unhide HB).call kb)
  clear kb
  cases h1 : envB vs fs rs li xs ys
  · have HN := hide (show r = false by rw [← unhide HRR, leqD, h1]; rfl)
    clear h1
    go_wp2
    go_ret
    exact ⟨by rw [unhide HN]; rfl, (unhide HB).2.2.2⟩
  have H1 := hide h1
  clear h1
  have p0 := (unhide HB).1.1
  have p1 := (unhide HB).1.2.1
  have p2 := (unhide HB).1.2.2.1
  have q0 := (unhide HB).2.1.1
  have q1 := (unhide HB).2.1.2.1
  have q2 := (unhide HB).2.1.2.2.1
  have s0 := (unhide HB).2.2.1.1
  have s1 := (unhide HB).2.2.1.2.1
  have s2 := (unhide HB).2.2.1.2.2.1
  go_wp2_with fail
  refine (iEnvOk_c a1 a2 a3 c1 c2 c3 vs fs rs lj e3 e4 d3 d4 xs2 ys2 _ ((unhide HW).call (unhide HB).2.2.2) ((unhide HV).call (unhide HB).2.2.2) ((unhide HF).call (unhide HB).2.2.2) ((unhide HR).call (unhide HB).2.2.2) (unhide HZ) ((unhide HX2).call (unhide HB).2.2.2) ((unhide HY2).call (unhide HB).2.2.2)).mono ?_
  rintro e u2 ⟨rfl, kb⟩
  have HB := hide ((unhide HB).call kb)
  clear kb p0 p1 p2 q0 q1 q2 s0 s1 s2
  cases h2 : envB vs fs rs lj xs2 ys2
  · have HN := hide (show r = false by rw [← unhide HRR, leqD, unhide H1, h2]; rfl)
    clear h2
    go_wp2
    go_ret
    exact ⟨by rw [unhide HN]; rfl, (unhide HB).2.2.2⟩
  have H2 := hide h2
  clear h2
  have HN := hide (show r = leqE li lj (xs ++ ys) (xs2 ++ ys2) by rw [← unhide HRR, leqD, unhide H1, unhide H2]; rfl)
  have HL := hide (env_lens (unhide H1) (unhide H2))
  have p0 := (unhide HB).1.1
  have p1 := (unhide HB).1.2.1
  have p2 := (unhide HB).1.2.2.1
  have q0 := (unhide HB).2.1.1
  have q1 := (unhide HB).2.1.2.1
  have q2 := (unhide HB).2.1.2.2.1
  have s0 := (unhide HB).2.2.1.1
  have s1 := (unhide HB).2.2.1.2.1
  have s2 := (unhide HB).2.2.1.2.2.1
  cases li
  · go_wp2
    go_ret
    exact ⟨by rw [unhide HN]; rfl, (unhide HB).2.2.2⟩
  cases lj
  · go_wp2
    go_ret
    exact ⟨by rw [unhide HN]; rfl, (unhide HB).2.2.2⟩
  go_wp2_with fail
  refine (within_c (w.heap.size + 1) (w.heap.size + 2) true e1 e2 d1 d2 xs ys true e3 e4 d3 d4 xs2 ys2 _ (unhide HB).2.1 (unhide HB).2.2.1 ((unhide HX).call (unhide HB).2.2.2) ((unhide HY).call (unhide HB).2.2.2) ((unhide HX2).call (unhide HB).2.2.2) ((unhide HY2).call (unhide HB).2.2.2) (env_lens (unhide H1) (unhide H2) rfl rfl)).mono ?_
  rintro e u3 ⟨rfl, kb⟩
  have HB := hide ((unhide HB).call kb)
  clear kb p0 p1 p2 q0 q1 q2 s0 s1 s2
  go_wp2
  go_ret
  exact ⟨by rw [unhide HN]; rfl, (unhide HB).2.2.2⟩
end Go.Proofs.YtpdnnpnclgcpoaaDoor

