/- Stores that joins and meets have: the walk of the law. -/
import Derived.Test.YthpnbmdmkmkicaaDoorHasM
import Derived.Test.YthpnbmdmkmkicaaDoorRiZ
import Derived.Test.YthpnbmdmkmkicaaDoorOrdK
import Derived.Test.YthpnbmdmkmkicaaDoorJoZ
import Derived.Test.YthpnbmdmkmkicaaDoorJpZ
import Derived.Test.YthpnbmdmkmkicaaDoorMeeF
namespace Go.Proofs.YthpnbmdmkmkicaaDoor
open Go.RowKit Go.Iv
set_option linter.unusedSimpArgs false
set_option linter.unusedVariables false

theorem futH {u v w : World} (h : Below u.heap.size u v) (k : Below v.heap.size v w) : Below u.heap.size u w := h.trans (k.mono h.size)
def AnsH (l : Bool) (X Y : List (Int × Int)) (w : World) (e : Ending) (w' : World) : Prop := ∃ oj cj ok ck, e = .returned (.agg #[.bool l, .slice oj X.length cj, .slice ok Y.length ck]) ∧ RowsE w' w.heap.size oj cj ok ck X Y ∧ Below w.heap.size w w'
/-- Eighteen cells of six boxes. -/
@[reducible] def S18 (w0 : World) (b p q r : Nat) (x0 x1 x2 y0 y1 y2 z0 z1 z2 p0 p1 p2 q0 q1 q2 r0 r1 r2 : Value) (u : World) : Prop :=
  u.cell? ⟨b, 0, none⟩ = some x0 ∧ u.cell? ⟨b, 1, none⟩ = some x1 ∧ u.cell? ⟨b, 2, none⟩ = some x2 ∧ u.cell? ⟨b + 1, 0, none⟩ = some y0 ∧ u.cell? ⟨b + 1, 1, none⟩ = some y1 ∧ u.cell? ⟨b + 1, 2, none⟩ = some y2 ∧ u.cell? ⟨b + 2, 0, none⟩ = some z0 ∧ u.cell? ⟨b + 2, 1, none⟩ = some z1 ∧ u.cell? ⟨b + 2, 2, none⟩ = some z2 ∧ u.cell? ⟨p, 0, none⟩ = some p0 ∧ u.cell? ⟨p, 1, none⟩ = some p1 ∧ u.cell? ⟨p, 2, none⟩ = some p2 ∧ u.cell? ⟨q, 0, none⟩ = some q0 ∧ u.cell? ⟨q, 1, none⟩ = some q1 ∧ u.cell? ⟨q, 2, none⟩ = some q2 ∧ u.cell? ⟨r, 0, none⟩ = some r0 ∧ u.cell? ⟨r, 1, none⟩ = some r1 ∧ u.cell? ⟨r, 2, none⟩ = some r2 ∧ Hid (Below w0.heap.size w0 u)
theorem S18.of {w0 u : World} {b p q r : Nat} {x0 x1 x2 y0 y1 y2 z0 z1 z2 p0 p1 p2 q0 q1 q2 r0 r1 r2 : Value} (h0 : C3 w0 b x0 x1 x2) (h1 : C3 w0 (b + 1) y0 y1 y2) (h2 : C3 w0 (b + 2) z0 z1 z2) (h3 : C3 w0 p p0 p1 p2) (h4 : C3 w0 q q0 q1 q2) (h5 : C3 w0 r r0 r1 r2) (k : Below w0.heap.size w0 u) : S18 w0 b p q r x0 x1 x2 y0 y1 y2 z0 z1 z2 p0 p1 p2 q0 q1 q2 r0 r1 r2 u := by
  have k0 := h0.call k
  have k1 := h1.call k
  have k2 := h2.call k
  have k3 := h3.call k
  have k4 := h4.call k
  have k5 := h5.call k
  exact ⟨k0.1, k0.2.1, k0.2.2.1, k1.1, k1.2.1, k1.2.2.1, k2.1, k2.2.1, k2.2.2.1, k3.1, k3.2.1, k3.2.2.1, k4.1, k4.2.1, k4.2.2.1, k5.1, k5.2.1, k5.2.2.1, hide k⟩
theorem S18.bel {w0 u : World} {b p q r : Nat} {x0 x1 x2 y0 y1 y2 z0 z1 z2 p0 p1 p2 q0 q1 q2 r0 r1 r2 : Value} (h : S18 w0 b p q r x0 x1 x2 y0 y1 y2 z0 z1 z2 p0 p1 p2 q0 q1 q2 r0 r1 r2 u) : Below w0.heap.size w0 u := unhide h.2.2.2.2.2.2.2.2.2.2.2.2.2.2.2.2.2.2
set_option maxRecDepth 20000 in
set_option maxHeartbeats 32000000 in
theorem lawFnEnvHas (a0 : Option Addr) (len0 cap0 : Nat) (z0 : List Int) (m0 : Option Addr) (len1 cap1 : Nat) (z1 : List Int) (w : World) (hw : KW w) (w0 : IsRow .u8 w a0 len0 cap0 z0) (w1 : IsRow .u8 w m0 len1 cap1 z1) :
    Calls Tryd.prog 3 #[.slice a0 len0 cap0, .slice m0 len1 cap1] w fun e w' => e = .returned (.bool true) ∧ Below w.heap.size w w' := by
  have HW := hide hw
  clear hw
  by_cases hbig : 1048576 < len0
  · have hm := row_len w0
    clear w0 w1
    go_enter Tryd.func3, Tryd.ntmps3
    go_wp2_with fail
    refine (big_yes _ _ _ hbig hm _).mono ?_
    rintro e w' ⟨rfl, rfl⟩
    go_wp2
    go_ret
    exact ⟨rfl, Below.refl _ _⟩
  have hs : len0 ≤ 1048576 := by omega
  have CD := hide (code_of_row w0 hs)
  clear w0 hbig
  by_cases hbig : 1048576 < len1
  · have hm := row_len w1
    clear w1
    go_enter Tryd.func3, Tryd.ntmps3
    go_wp2_with fail
    refine (big_c _ _ _ hs _).mono ?_
    rintro e w' ⟨rfl, rfl⟩
    go_wp2_with fail
    refine (big_yes _ _ _ hbig hm _).mono ?_
    rintro e w' ⟨rfl, rfl⟩
    go_wp2
    go_ret
    exact ⟨rfl, Below.refl _ _⟩
  have hs1 : len1 ≤ 1048576 := by omega
  have CM := hide (code_of_row w1 hs1)
  clear w1 hbig
  go_enter Tryd.func3, Tryd.ntmps3
  go_wp2_with fail
  refine (big_c _ _ _ hs _).mono ?_
  rintro e w' ⟨rfl, hw'⟩
  subst w'
  go_wp2_with fail
  refine (big_c _ _ _ hs1 _).mono ?_
  rintro e w' ⟨rfl, hw'⟩
  subst w'
  go_wp2_with fail
  refine (DrawEnvMeet_c _ _ _ _ (unhide CD)).mono ?_
  rintro e u1 ⟨a1, a2, a3, c1, c2, c3, vs, fs, rs, li, oa, ca, ob, cb, xs, ys, lj, oc, cc, od, cd, xs2, ys2, rfl, s1, s2, s3, hz, ⟨i1, i2⟩, ⟨i3, i4⟩, ⟨n1, n2, _, _⟩, _, kb⟩
  have HRW := hide (show OrR u1 a1 a2 a3 vs fs rs oa ob xs ys oc od xs2 ys2 from ⟨(unhide HW).call kb, s1, s2, s3, i1, i2, i3, i4⟩)
  have HZ := hide hz
  have HB := hide kb
  have HIN := hide (And.intro n1 n2)
  clear s1 s2 s3 hz i1 i2 i3 i4 kb n1 n2
  have HBX := hide (B3.new u1 (.slice a1 vs.length c1) (.slice a2 fs.length c2) (.slice a3 rs.length c3) (.bool li) (.slice oa xs.length ca) (.slice ob ys.length cb) (.bool lj) (.slice oc xs2.length cc) (.slice od ys2.length cd) 27 30 30)
  have ka := (((Below.refl _ u1).alloc (Nat.le_refl _) (Obj.cells #[.slice a1 vs.length c1, .slice a2 fs.length c2, .slice a3 rs.length c3] 27)).alloc (by simp) (Obj.cells #[.bool li, .slice oa xs.length ca, .slice ob ys.length cb] 30)).alloc (by simp; omega) (Obj.cells #[.bool lj, .slice oc xs2.length cc, .slice od ys2.length cd] 30)
  have HRW := hide ((unhide HRW).call ka)
  have HB := hide ((unhide HB).trans (ka.mono (unhide HB).size))
  go_upto_region 4 with fail
  generalize ((u1.alloc (Obj.cells #[.slice a1 vs.length c1, .slice a2 fs.length c2, .slice a3 rs.length c3] 27)).alloc (Obj.cells #[.bool li, .slice oa xs.length ca, .slice ob ys.length cb] 30)).alloc (Obj.cells #[.bool lj, .slice oc xs2.length cc, .slice od ys2.length cd] 30) = u2 at HBX HRW HB ⊢
  clear ka
  go_wp2_with fail
  refine (DrawEnvHas_c _ _ _ _ ((unhide CM).below (unhide HB))).mono ?_
  rintro e u3 ⟨f1, f2, f3, g1, g2, g3, vt, ft, rt, lt, p1, h1, p2, h2, xt, yt, q1, q2, q3, k1, k2, k3, it, bt, jt, rfl, s1, s2, s3, hz, hiv, hst, kb⟩
  have HRT := hide (show KW u3 ∧ Strs u3 f1 vt ∧ Strs u3 f2 ft ∧ Arrs u3 f3 rt ∧ (Ivs u3 p1 xt ∧ Ivs u3 p2 yt) ∧ Ints u3 q1 it ∧ Mats u3 q3 jt from ⟨(unhide HRW).1.call kb, s1, s2, s3, hiv, hst⟩)
  have HZT := hide hz
  have HRW := hide ((unhide HRW).call kb)
  have HBX := hide ((unhide HBX).call kb)
  have HB := hide ((unhide HB).trans (kb.mono (unhide HB).size))
  clear s1 s2 s3 hz hiv hst kb
  have HBT := hide (B3.new u3 (.slice f1 vt.length g1) (.slice f2 ft.length g2) (.slice f3 rt.length g3) (.bool lt) (.slice p1 xt.length h1) (.slice p2 yt.length h2) (.slice q1 it.length k1) (.slice q2 bt.length k2) (.slice q3 jt.length k3) 27 30 37)
  have ka := (((Below.refl _ u3).alloc (Nat.le_refl _) (Obj.cells #[.slice f1 vt.length g1, .slice f2 ft.length g2, .slice f3 rt.length g3] 27)).alloc (by simp) (Obj.cells #[.bool lt, .slice p1 xt.length h1, .slice p2 yt.length h2] 30)).alloc (by simp; omega) (Obj.cells #[.slice q1 it.length k1, .slice q2 bt.length k2, .slice q3 jt.length k3] 37)
  have HRW := hide ((unhide HRW).call ka)
  have HRT := hide (show KW _ ∧ Strs _ f1 vt ∧ Strs _ f2 ft ∧ Arrs _ f3 rt ∧ (Ivs _ p1 xt ∧ Ivs _ p2 yt) ∧ Ints _ q1 it ∧ Mats _ q3 jt from ⟨(unhide HRT).1.call ka, (unhide HRT).2.1.call ka, (unhide HRT).2.2.1.call ka, (unhide HRT).2.2.2.1.call ka, ⟨(unhide HRT).2.2.2.2.1.1.call ka, (unhide HRT).2.2.2.2.1.2.call ka⟩, (unhide HRT).2.2.2.2.2.1.call ka, (unhide HRT).2.2.2.2.2.2.call ka⟩)
  have HBX := hide ((unhide HBX).call ka)
  have HB := hide ((unhide HB).trans (ka.mono (unhide HB).size))
  go_upto_region 5 with fail
  generalize ((u3.alloc (Obj.cells #[.slice f1 vt.length g1, .slice f2 ft.length g2, .slice f3 rt.length g3] 27)).alloc (Obj.cells #[.bool lt, .slice p1 xt.length h1, .slice p2 yt.length h2] 30)).alloc (Obj.cells #[.slice q1 it.length k1, .slice q2 bt.length k2, .slice q3 jt.length k3] 37) = ub at HBX HBT HRW HRT HB ⊢
  clear ka
  have KH : Hid (∀ w, Below ub.heap.size ub w → Calls Tryd.prog 9 #[.agg #[.slice f1 vt.length g1, .slice f2 ft.length g2, .slice f3 rt.length g3], .agg #[.bool lt, .slice p1 xt.length h1, .slice p2 yt.length h2], .agg #[.slice q1 it.length k1, .slice q2 bt.length k2, .slice q3 jt.length k3]] w fun e w' => e = .returned (.bool (hasD vt ft rt lt xt yt it bt jt)) ∧ Below w.heap.size w w') := fun w k => iEnvHas_c f1 f2 f3 g1 g2 g3 vt ft rt lt p1 p2 h1 h2 xt yt q1 q2 q3 k1 k2 k3 it bt jt w ((unhide HRT).1.call k) ((unhide HRT).2.1.call k) ((unhide HRT).2.2.1.call k) ((unhide HRT).2.2.2.1.call k) (unhide HZT) ((unhide HRT).2.2.2.2.1.1.call k) ((unhide HRT).2.2.2.2.1.2.call k) ((unhide HRT).2.2.2.2.2.1.call k) ((unhide HRT).2.2.2.2.2.2.call k)
  have KHS : Hid (∀ w, Below ub.heap.size ub w → Calls Tryd.prog 10 #[.agg #[.slice f1 vt.length g1, .slice f2 ft.length g2, .slice f3 rt.length g3], .agg #[.bool lt, .slice p1 xt.length h1, .slice p2 yt.length h2], .agg #[.slice q1 it.length k1, .slice q2 bt.length k2, .slice q3 jt.length k3]] w fun e w' => e = .returned (.bool (hasD vt ft rt lt xt yt it bt jt)) ∧ Below w.heap.size w w') := fun w k => sEnvHas_c f1 f2 f3 g1 g2 g3 vt ft rt lt p1 p2 h1 h2 xt yt q1 q2 q3 k1 k2 k3 it bt jt w ((unhide HRT).2.1.call k) ((unhide HRT).2.2.1.call k) ((unhide HRT).2.2.2.1.call k) (unhide HZT) ((unhide HRT).2.2.2.2.1.1.call k) ((unhide HRT).2.2.2.2.1.2.call k) ((unhide HRT).2.2.2.2.2.1.call k) ((unhide HRT).2.2.2.2.2.2.call k)
  have KA : Hid (∀ w, Below ub.heap.size ub w → Calls Tryd.prog 11 #[.agg #[.slice a1 vs.length c1, .slice a2 fs.length c2, .slice a3 rs.length c3], .agg #[.bool li, .slice oa xs.length ca, .slice ob ys.length cb]] w fun e w' => e = .returned (.bool (envB vs fs rs li xs ys)) ∧ Below w.heap.size w w') := fun w k => sEnvOk_c a1 a2 a3 c1 c2 c3 vs fs rs li oa ob ca cb xs ys w ((unhide HRW).2.1.call k) ((unhide HRW).2.2.1.call k) ((unhide HRW).2.2.2.1.call k) (unhide HZ) ((unhide HRW).2.2.2.2.1.call k) ((unhide HRW).2.2.2.2.2.1.call k)
  have KI : Hid (∀ w, Below ub.heap.size ub w → Calls Tryd.prog 12 #[.agg #[.slice a1 vs.length c1, .slice a2 fs.length c2, .slice a3 rs.length c3], .agg #[.bool li, .slice oa xs.length ca, .slice ob ys.length cb]] w fun e w' => e = .returned (.bool (envB vs fs rs li xs ys)) ∧ Below w.heap.size w w') := fun w k => iEnvOk_c a1 a2 a3 c1 c2 c3 vs fs rs li oa ob ca cb xs ys w ((unhide HRW).1.call k) ((unhide HRW).2.1.call k) ((unhide HRW).2.2.1.call k) ((unhide HRW).2.2.2.1.call k) (unhide HZ) ((unhide HRW).2.2.2.2.1.call k) ((unhide HRW).2.2.2.2.2.1.call k)
  have KB : Hid (∀ w, Below ub.heap.size ub w → Calls Tryd.prog 11 #[.agg #[.slice a1 vs.length c1, .slice a2 fs.length c2, .slice a3 rs.length c3], .agg #[.bool lj, .slice oc xs2.length cc, .slice od ys2.length cd]] w fun e w' => e = .returned (.bool (envB vs fs rs lj xs2 ys2)) ∧ Below w.heap.size w w') := fun w k => sEnvOk_c a1 a2 a3 c1 c2 c3 vs fs rs lj oc od cc cd xs2 ys2 w ((unhide HRW).2.1.call k) ((unhide HRW).2.2.1.call k) ((unhide HRW).2.2.2.1.call k) (unhide HZ) ((unhide HRW).2.2.2.2.2.2.1.call k) ((unhide HRW).2.2.2.2.2.2.2.call k)
  obtain ⟨rr, hr⟩ : ∃ r, hasD vt ft rt lt xt yt it bt jt = r := ⟨_, rfl⟩
  rw [hr] at KH KHS
  clear hr
  obtain ⟨A, hA⟩ : ∃ A, envB vs fs rs li xs ys = A := ⟨_, rfl⟩
  obtain ⟨B, hB⟩ : ∃ B, envB vs fs rs lj xs2 ys2 = B := ⟨_, rfl⟩
  rw [hA] at KA KI
  rw [hB] at KB
  have HA := hide hA
  have HBB := hide hB
  clear hA hB
  cases A
  · skip
    refine wp_region_held_drew (S := (S18 ub u1.heap.size u3.heap.size (u3.heap.size + 1) (u3.heap.size + 2) (.slice a1 vs.length c1) (.slice a2 fs.length c2) (.slice a3 rs.length c3) (.bool li) (.slice oa xs.length ca) (.slice ob ys.length cb) (.bool lj) (.slice oc xs2.length cc) (.slice od ys2.length cd) (.slice f1 vt.length g1) (.slice f2 ft.length g2) (.slice f3 rt.length g3) (.bool lt) (.slice p1 xt.length h1) (.slice p2 yt.length h2) (.slice q1 it.length k1) (.slice q2 bt.length k2) (.slice q3 jt.length k3))) (by kernel_rfl) (S18.of (unhide HBX).1 (unhide HBX).2.1 (unhide HBX).2.2.1 (unhide HBT).1 (unhide HBT).2.1 (unhide HBT).2.2.1 (Below.refl ub.heap.size ub).drew) (fun hHeld => ?_)
    refine wpAnyH_take (i := 0) (oi := ⟨some 33, Op.load 27 (Operand.tmp 8), 27, _, _, none⟩) (v := ?_) rfl (by kernel_rfl) (by kernel_rfl) (by kernel_rfl) (fun _ _ _ h => h) (Or.inl ⟨by rfl, ?_⟩) (by assumption) ?_
    rotate_left
    · (intro w9 hSw; (try dsimp only at hSw); go_simp; try with_reducible rfl)
    try simp only [Act.put, List.setIfInBounds_toArray, List.set_cons_zero, List.set_cons_succ]
    refine wpAnyH_take (i := 1) (oi := ⟨some 34, Op.load 30 (Operand.tmp 9), 30, _, _, none⟩) (v := ?_) rfl (by kernel_rfl) (by kernel_rfl) (by kernel_rfl) (fun _ _ _ h => h) (Or.inl ⟨by rfl, ?_⟩) (by assumption) ?_
    rotate_left
    · (intro w9 hSw; (try dsimp only at hSw); go_simp; try with_reducible rfl)
    try simp only [Act.put, List.setIfInBounds_toArray, List.set_cons_zero, List.set_cons_succ]
    refine wpAnyH_take (i := 2) (oi := ⟨some 35, Op.load 37 (Operand.tmp 10), 37, _, _, none⟩) (v := ?_) rfl (by kernel_rfl) (by kernel_rfl) (by kernel_rfl) (fun _ _ _ h => h) (Or.inl ⟨by rfl, ?_⟩) (by assumption) ?_
    rotate_left
    · (intro w9 hSw; (try dsimp only at hSw); go_simp; try with_reducible rfl)
    try simp only [Act.put, List.setIfInBounds_toArray, List.set_cons_zero, List.set_cons_succ]
    refine wpAnyH_take (i := 4) (oi := ⟨some 37, Op.load 27 (Operand.tmp 8), 27, _, _, none⟩) (v := ?_) rfl (by kernel_rfl) (by kernel_rfl) (by kernel_rfl) (fun _ _ _ h => h) (Or.inl ⟨by rfl, ?_⟩) (by assumption) ?_
    rotate_left
    · (intro w9 hSw; (try dsimp only at hSw); go_simp; try with_reducible rfl)
    try simp only [Act.put, List.setIfInBounds_toArray, List.set_cons_zero, List.set_cons_succ]
    refine wpAnyH_take (i := 5) (oi := ⟨some 38, Op.load 30 (Operand.tmp 9), 30, _, _, none⟩) (v := ?_) rfl (by kernel_rfl) (by kernel_rfl) (by kernel_rfl) (fun _ _ _ h => h) (Or.inl ⟨by rfl, ?_⟩) (by assumption) ?_
    rotate_left
    · (intro w9 hSw; (try dsimp only at hSw); go_simp; try with_reducible rfl)
    try simp only [Act.put, List.setIfInBounds_toArray, List.set_cons_zero, List.set_cons_succ]
    refine wpAnyH_take (i := 6) (oi := ⟨some 39, Op.load 37 (Operand.tmp 10), 37, _, _, none⟩) (v := ?_) rfl (by kernel_rfl) (by kernel_rfl) (by kernel_rfl) (fun _ _ _ h => h) (Or.inl ⟨by rfl, ?_⟩) (by assumption) ?_
    rotate_left
    · (intro w9 hSw; (try dsimp only at hSw); go_simp; try with_reducible rfl)
    try simp only [Act.put, List.setIfInBounds_toArray, List.set_cons_zero, List.set_cons_succ]
    refine wpAnyH_ready (rs := [3]) (by kernel_rfl) (by simp) ?_
    refine AllReadyH.cons (i := 3) (o := ⟨some 36, Op.call { callee := Callee.value (Operand.func 9), args := #[Operand.tmp 33, Operand.tmp 34, Operand.tmp 35], argTypes := #[27, 30, 37] }, 4, _, _, none⟩) rfl (fun K hK => ?_) AllReadyH.nil
    go_simp
    refine ((unhide KH) _ (S18.bel hHeld)).mono ?_
    rintro e u9 ⟨rfl, kb⟩
    have hq := S18.of (unhide HBX).1 (unhide HBX).2.1 (unhide HBX).2.2.1 (unhide HBT).1 (unhide HBT).2.1 (unhide HBT).2.2.1 (futH (S18.bel hHeld) kb)
    clear kb hHeld
    refine hK.out _ _ hq (fun hHeld => ?_)
    clear hK K hq
    try simp only [Act.put, List.setIfInBounds_toArray, List.set_cons_zero, List.set_cons_succ]
    refine wpAnyH_ready (rs := [7]) (by kernel_rfl) (by simp) ?_
    refine AllReadyH.cons (i := 7) (o := ⟨some 40, Op.call { callee := Callee.value (Operand.func 10), args := #[Operand.tmp 37, Operand.tmp 38, Operand.tmp 39], argTypes := #[27, 30, 37] }, 4, _, _, none⟩) rfl (fun K hK => ?_) AllReadyH.nil
    go_simp
    refine ((unhide KHS) _ (S18.bel hHeld)).mono ?_
    rintro e u9 ⟨rfl, kb⟩
    have hq := S18.of (unhide HBX).1 (unhide HBX).2.1 (unhide HBX).2.2.1 (unhide HBT).1 (unhide HBT).2.1 (unhide HBT).2.2.1 (futH (S18.bel hHeld) kb)
    clear kb hHeld
    refine hK.out _ _ hq (fun hHeld => ?_)
    clear hK K hq
    try simp only [Act.put, List.setIfInBounds_toArray, List.set_cons_zero, List.set_cons_succ]
    refine wpAnyH_take (i := 8) (oi := ⟨some 41, Op.binOp BinOp.neq 4 (Operand.tmp 36) (Operand.tmp 40) 4, 4, _, _, none⟩) (v := ?_) rfl (by kernel_rfl) (by kernel_rfl) (by kernel_rfl) (fun _ _ _ h => h) (Or.inl ⟨by rfl, ?_⟩) (by assumption) ?_
    rotate_left
    · (intro w9 hSw; (try dsimp only at hSw); go_simp; try with_reducible rfl)
    try simp only [Act.put, List.setIfInBounds_toArray, List.set_cons_zero, List.set_cons_succ]
    refine wpAnyH_take (i := 9) (oi := ⟨some 42, Op.move (Operand.tmp 41), 4, _, _, none⟩) (v := ?_) rfl (by kernel_rfl) (by kernel_rfl) (by kernel_rfl) (fun _ _ _ h => h) (Or.inl ⟨by rfl, ?_⟩) (by assumption) ?_
    rotate_left
    · (intro w9 hSw; (try dsimp only at hSw); go_simp; try with_reducible rfl)
    try simp only [Act.put, List.setIfInBounds_toArray, List.set_cons_zero, List.set_cons_succ]
    refine wpAnyH_take (i := 10) (oi := ⟨some 43, Op.load 27 (Operand.tmp 5), 27, _, _, some (9, false)⟩) (v := ?_) rfl (by kernel_rfl) (by kernel_rfl) (by kernel_rfl) (fun _ _ _ h => h) (Or.inl ⟨by rfl, ?_⟩) (by assumption) ?_
    rotate_left
    · (intro w9 hSw; (try dsimp only at hSw); go_simp; try with_reducible rfl)
    try simp only [Act.put, List.setIfInBounds_toArray, List.set_cons_zero, List.set_cons_succ]
    refine wpAnyH_take (i := 11) (oi := ⟨some 44, Op.load 30 (Operand.tmp 6), 30, _, _, some (9, false)⟩) (v := ?_) rfl (by kernel_rfl) (by kernel_rfl) (by kernel_rfl) (fun _ _ _ h => h) (Or.inl ⟨by rfl, ?_⟩) (by assumption) ?_
    rotate_left
    · (intro w9 hSw; (try dsimp only at hSw); go_simp; try with_reducible rfl)
    try simp only [Act.put, List.setIfInBounds_toArray, List.set_cons_zero, List.set_cons_succ]
    refine wpAnyH_ready (rs := [12]) (by kernel_rfl) (by simp) ?_
    refine AllReadyH.cons (i := 12) (o := ⟨some 45, Op.call { callee := Callee.value (Operand.func 11), args := #[Operand.tmp 43, Operand.tmp 44], argTypes := #[27, 30] }, 4, _, _, some (9, false)⟩) rfl (fun K hK => ?_) AllReadyH.nil
    go_simp
    refine ((unhide KA) _ (S18.bel hHeld)).mono ?_
    rintro e u9 ⟨rfl, kb⟩
    have hq := S18.of (unhide HBX).1 (unhide HBX).2.1 (unhide HBX).2.2.1 (unhide HBT).1 (unhide HBT).2.1 (unhide HBT).2.2.1 (futH (S18.bel hHeld) kb)
    clear kb hHeld
    refine hK.out _ _ hq (fun hHeld => ?_)
    clear hK K hq
    try simp only [Act.put, List.setIfInBounds_toArray, List.set_cons_zero, List.set_cons_succ]
    refine wpAnyH_take (i := 13) (oi := ⟨some 46, Op.unOp UnOp.not 4 (Operand.tmp 45), 4, _, _, some (9, false)⟩) (v := ?_) rfl (by kernel_rfl) (by kernel_rfl) (by kernel_rfl) (fun _ _ _ h => h) (Or.inl ⟨by rfl, ?_⟩) (by assumption) ?_
    rotate_left
    · (intro w9 hSw; (try dsimp only at hSw); go_simp; try with_reducible rfl)
    try simp only [Act.put, List.setIfInBounds_toArray, List.set_cons_zero, List.set_cons_succ]
    refine wpAnyH_take (i := 14) (oi := ⟨some 47, Op.pick (Operand.tmp 42) (Operand.const (Value.bool true)) (Operand.tmp 46), 4, _, _, none⟩) (v := ?_) rfl (by kernel_rfl) (by kernel_rfl) (by kernel_rfl) (fun _ _ _ h => h) (Or.inl ⟨by rfl, ?_⟩) (by assumption) ?_
    rotate_left
    · (intro w9 hSw; (try dsimp only at hSw); go_simp; try with_reducible rfl)
    try simp only [Act.put, List.setIfInBounds_toArray, List.set_cons_zero, List.set_cons_succ]
    refine wpAnyH_take (i := 15) (oi := ⟨some 48, Op.move (Operand.tmp 47), 4, _, _, none⟩) (v := ?_) rfl (by kernel_rfl) (by kernel_rfl) (by kernel_rfl) (fun _ _ _ h => h) (Or.inl ⟨by rfl, ?_⟩) (by assumption) ?_
    rotate_left
    · (intro w9 hSw; (try dsimp only at hSw); go_simp; try with_reducible rfl)
    try simp only [Act.put, List.setIfInBounds_toArray, List.set_cons_zero, List.set_cons_succ]
    refine wpAnyH_take (i := 16) (oi := ⟨some 49, Op.load 27 (Operand.tmp 5), 27, _, _, some (15, false)⟩) (v := undef) rfl (by kernel_rfl) (by kernel_rfl) (by kernel_rfl) (fun _ _ _ h => h) (Or.inr ⟨by rfl, rfl⟩) (by assumption) ?_
    try simp only [Act.put, List.setIfInBounds_toArray, List.set_cons_zero, List.set_cons_succ]
    refine wpAnyH_take (i := 17) (oi := ⟨some 50, Op.load 30 (Operand.tmp 7), 30, _, _, some (15, false)⟩) (v := undef) rfl (by kernel_rfl) (by kernel_rfl) (by kernel_rfl) (fun _ _ _ h => h) (Or.inr ⟨by rfl, rfl⟩) (by assumption) ?_
    try simp only [Act.put, List.setIfInBounds_toArray, List.set_cons_zero, List.set_cons_succ]
    refine wpAnyH_take (i := 18) (oi := ⟨some 51, Op.call { callee := Callee.value (Operand.func 11), args := #[Operand.tmp 49, Operand.tmp 50], argTypes := #[27, 30] }, 4, _, _, some (15, false)⟩) (v := undef) rfl (by kernel_rfl) (by kernel_rfl) (by kernel_rfl) (fun _ _ _ h => h) (Or.inr ⟨by rfl, rfl⟩) (by assumption) ?_
    try simp only [Act.put, List.setIfInBounds_toArray, List.set_cons_zero, List.set_cons_succ]
    refine wpAnyH_take (i := 19) (oi := ⟨some 52, Op.unOp UnOp.not 4 (Operand.tmp 51), 4, _, _, some (15, false)⟩) (v := undef) rfl (by kernel_rfl) (by kernel_rfl) (by kernel_rfl) (fun _ _ _ h => h) (Or.inr ⟨by rfl, rfl⟩) (by assumption) ?_
    try simp only [Act.put, List.setIfInBounds_toArray, List.set_cons_zero, List.set_cons_succ]
    refine wpAnyH_take (i := 20) (oi := ⟨some 53, Op.pick (Operand.tmp 48) (Operand.const (Value.bool true)) (Operand.tmp 52), 4, _, _, none⟩) (v := ?_) rfl (by kernel_rfl) (by kernel_rfl) (by kernel_rfl) (fun _ _ _ h => h) (Or.inl ⟨by rfl, ?_⟩) (by assumption) ?_
    rotate_left
    · (intro w9 hSw; (try dsimp only at hSw); go_simp; try with_reducible rfl)
    try simp only [Act.put, List.setIfInBounds_toArray, List.set_cons_zero, List.set_cons_succ]
    refine wpAnyH_take (i := 21) (oi := ⟨some 54, Op.move (Operand.tmp 53), 4, _, _, none⟩) (v := ?_) rfl (by kernel_rfl) (by kernel_rfl) (by kernel_rfl) (fun _ _ _ h => h) (Or.inl ⟨by rfl, ?_⟩) (by assumption) ?_
    rotate_left
    · (intro w9 hSw; (try dsimp only at hSw); go_simp; try with_reducible rfl)
    try simp only [Act.put, List.setIfInBounds_toArray, List.set_cons_zero, List.set_cons_succ]
    refine wpAnyH_take (i := 22) (oi := ⟨some 55, Op.fieldAddr 30 (Operand.tmp 6) 0, 0, _, _, some (21, false)⟩) (v := undef) rfl (by kernel_rfl) (by kernel_rfl) (by kernel_rfl) (fun _ _ _ h => h) (Or.inr ⟨by rfl, rfl⟩) (by assumption) ?_
    try simp only [Act.put, List.setIfInBounds_toArray, List.set_cons_zero, List.set_cons_succ]
    refine wpAnyH_take (i := 23) (oi := ⟨some 56, Op.load 4 (Operand.tmp 55), 4, _, _, some (21, false)⟩) (v := undef) rfl (by kernel_rfl) (by kernel_rfl) (by kernel_rfl) (fun _ _ _ h => h) (Or.inr ⟨by rfl, rfl⟩) (by assumption) ?_
    try simp only [Act.put, List.setIfInBounds_toArray, List.set_cons_zero, List.set_cons_succ]
    refine wpAnyH_take (i := 24) (oi := ⟨some 57, Op.unOp UnOp.not 4 (Operand.tmp 56), 4, _, _, some (21, false)⟩) (v := undef) rfl (by kernel_rfl) (by kernel_rfl) (by kernel_rfl) (fun _ _ _ h => h) (Or.inr ⟨by rfl, rfl⟩) (by assumption) ?_
    try simp only [Act.put, List.setIfInBounds_toArray, List.set_cons_zero, List.set_cons_succ]
    refine wpAnyH_take (i := 25) (oi := ⟨some 58, Op.pick (Operand.tmp 54) (Operand.const (Value.bool true)) (Operand.tmp 57), 4, _, _, none⟩) (v := ?_) rfl (by kernel_rfl) (by kernel_rfl) (by kernel_rfl) (fun _ _ _ h => h) (Or.inl ⟨by rfl, ?_⟩) (by assumption) ?_
    rotate_left
    · (intro w9 hSw; (try dsimp only at hSw); go_simp; try with_reducible rfl)
    try simp only [Act.put, List.setIfInBounds_toArray, List.set_cons_zero, List.set_cons_succ]
    refine wpAnyH_done (by kernel_rfl) ?_ _
    have HK := hide (S18.bel hHeld)
    clear hHeld
    generalize u9 = ur at HK ⊢
    go_upto_region 6 with fail
    refine wp_region_held_drew (S := (S18 ur u1.heap.size u3.heap.size (u3.heap.size + 1) (u3.heap.size + 2) (.slice a1 vs.length c1) (.slice a2 fs.length c2) (.slice a3 rs.length c3) (.bool li) (.slice oa xs.length ca) (.slice ob ys.length cb) (.bool lj) (.slice oc xs2.length cc) (.slice od ys2.length cd) (.slice f1 vt.length g1) (.slice f2 ft.length g2) (.slice f3 rt.length g3) (.bool lt) (.slice p1 xt.length h1) (.slice p2 yt.length h2) (.slice q1 it.length k1) (.slice q2 bt.length k2) (.slice q3 jt.length k3))) (by kernel_rfl) (S18.of ((unhide HBX).1.call (unhide HK)) ((unhide HBX).2.1.call (unhide HK)) ((unhide HBX).2.2.1.call (unhide HK)) ((unhide HBT).1.call (unhide HK)) ((unhide HBT).2.1.call (unhide HK)) ((unhide HBT).2.2.1.call (unhide HK)) (Below.refl ur.heap.size ur).drew) (fun hHeld => ?_)
    refine wpAnyH_take (i := 0) (oi := ⟨some 59, Op.load 27 (Operand.tmp 8), 27, _, _, none⟩) (v := ?_) rfl (by kernel_rfl) (by kernel_rfl) (by kernel_rfl) (fun _ _ _ h => h) (Or.inl ⟨by rfl, ?_⟩) (by assumption) ?_
    rotate_left
    · (intro w9 hSw; (try dsimp only at hSw); go_simp; try with_reducible rfl)
    try simp only [Act.put, List.setIfInBounds_toArray, List.set_cons_zero, List.set_cons_succ]
    refine wpAnyH_take (i := 1) (oi := ⟨some 60, Op.load 30 (Operand.tmp 9), 30, _, _, none⟩) (v := ?_) rfl (by kernel_rfl) (by kernel_rfl) (by kernel_rfl) (fun _ _ _ h => h) (Or.inl ⟨by rfl, ?_⟩) (by assumption) ?_
    rotate_left
    · (intro w9 hSw; (try dsimp only at hSw); go_simp; try with_reducible rfl)
    try simp only [Act.put, List.setIfInBounds_toArray, List.set_cons_zero, List.set_cons_succ]
    refine wpAnyH_take (i := 2) (oi := ⟨some 61, Op.load 37 (Operand.tmp 10), 37, _, _, none⟩) (v := ?_) rfl (by kernel_rfl) (by kernel_rfl) (by kernel_rfl) (fun _ _ _ h => h) (Or.inl ⟨by rfl, ?_⟩) (by assumption) ?_
    rotate_left
    · (intro w9 hSw; (try dsimp only at hSw); go_simp; try with_reducible rfl)
    try simp only [Act.put, List.setIfInBounds_toArray, List.set_cons_zero, List.set_cons_succ]
    refine wpAnyH_take (i := 4) (oi := ⟨some 63, Op.load 27 (Operand.tmp 8), 27, _, _, none⟩) (v := ?_) rfl (by kernel_rfl) (by kernel_rfl) (by kernel_rfl) (fun _ _ _ h => h) (Or.inl ⟨by rfl, ?_⟩) (by assumption) ?_
    rotate_left
    · (intro w9 hSw; (try dsimp only at hSw); go_simp; try with_reducible rfl)
    try simp only [Act.put, List.setIfInBounds_toArray, List.set_cons_zero, List.set_cons_succ]
    refine wpAnyH_take (i := 5) (oi := ⟨some 64, Op.load 30 (Operand.tmp 9), 30, _, _, none⟩) (v := ?_) rfl (by kernel_rfl) (by kernel_rfl) (by kernel_rfl) (fun _ _ _ h => h) (Or.inl ⟨by rfl, ?_⟩) (by assumption) ?_
    rotate_left
    · (intro w9 hSw; (try dsimp only at hSw); go_simp; try with_reducible rfl)
    try simp only [Act.put, List.setIfInBounds_toArray, List.set_cons_zero, List.set_cons_succ]
    refine wpAnyH_take (i := 6) (oi := ⟨some 65, Op.load 37 (Operand.tmp 10), 37, _, _, none⟩) (v := ?_) rfl (by kernel_rfl) (by kernel_rfl) (by kernel_rfl) (fun _ _ _ h => h) (Or.inl ⟨by rfl, ?_⟩) (by assumption) ?_
    rotate_left
    · (intro w9 hSw; (try dsimp only at hSw); go_simp; try with_reducible rfl)
    try simp only [Act.put, List.setIfInBounds_toArray, List.set_cons_zero, List.set_cons_succ]
    refine wpAnyH_ready (rs := [3]) (by kernel_rfl) (by simp) ?_
    refine AllReadyH.cons (i := 3) (o := ⟨some 62, Op.call { callee := Callee.value (Operand.func 9), args := #[Operand.tmp 59, Operand.tmp 60, Operand.tmp 61], argTypes := #[27, 30, 37] }, 4, _, _, none⟩) rfl (fun K hK => ?_) AllReadyH.nil
    go_simp
    refine ((unhide KH) _ (futH (unhide HK) (S18.bel hHeld))).mono ?_
    rintro e u9 ⟨rfl, kb⟩
    have hq := S18.of ((unhide HBX).1.call (unhide HK)) ((unhide HBX).2.1.call (unhide HK)) ((unhide HBX).2.2.1.call (unhide HK)) ((unhide HBT).1.call (unhide HK)) ((unhide HBT).2.1.call (unhide HK)) ((unhide HBT).2.2.1.call (unhide HK)) (futH (S18.bel hHeld) kb)
    clear kb hHeld
    refine hK.out _ _ hq (fun hHeld => ?_)
    clear hK K hq
    try simp only [Act.put, List.setIfInBounds_toArray, List.set_cons_zero, List.set_cons_succ]
    refine wpAnyH_ready (rs := [7]) (by kernel_rfl) (by simp) ?_
    refine AllReadyH.cons (i := 7) (o := ⟨some 66, Op.call { callee := Callee.value (Operand.func 10), args := #[Operand.tmp 63, Operand.tmp 64, Operand.tmp 65], argTypes := #[27, 30, 37] }, 4, _, _, none⟩) rfl (fun K hK => ?_) AllReadyH.nil
    go_simp
    refine ((unhide KHS) _ (futH (unhide HK) (S18.bel hHeld))).mono ?_
    rintro e u9 ⟨rfl, kb⟩
    have hq := S18.of ((unhide HBX).1.call (unhide HK)) ((unhide HBX).2.1.call (unhide HK)) ((unhide HBX).2.2.1.call (unhide HK)) ((unhide HBT).1.call (unhide HK)) ((unhide HBT).2.1.call (unhide HK)) ((unhide HBT).2.2.1.call (unhide HK)) (futH (S18.bel hHeld) kb)
    clear kb hHeld
    refine hK.out _ _ hq (fun hHeld => ?_)
    clear hK K hq
    try simp only [Act.put, List.setIfInBounds_toArray, List.set_cons_zero, List.set_cons_succ]
    refine wpAnyH_take (i := 8) (oi := ⟨some 67, Op.binOp BinOp.eql 4 (Operand.tmp 62) (Operand.tmp 66) 4, 4, _, _, none⟩) (v := ?_) rfl (by kernel_rfl) (by kernel_rfl) (by kernel_rfl) (fun _ _ _ h => h) (Or.inl ⟨by rfl, ?_⟩) (by assumption) ?_
    rotate_left
    · (intro w9 hSw; (try dsimp only at hSw); go_simp; try with_reducible rfl)
    try simp only [Act.put, List.setIfInBounds_toArray, List.set_cons_zero, List.set_cons_succ]
    refine wpAnyH_take (i := 9) (oi := ⟨some 68, Op.move (Operand.tmp 67), 4, _, _, none⟩) (v := ?_) rfl (by kernel_rfl) (by kernel_rfl) (by kernel_rfl) (fun _ _ _ h => h) (Or.inl ⟨by rfl, ?_⟩) (by assumption) ?_
    rotate_left
    · (intro w9 hSw; (try dsimp only at hSw); go_simp; try with_reducible rfl)
    try simp only [Act.put, List.setIfInBounds_toArray, List.set_cons_zero, List.set_cons_succ]
    refine wpAnyH_take (i := 10) (oi := ⟨some 69, Op.load 27 (Operand.tmp 5), 27, _, _, some (9, true)⟩) (v := ?_) rfl (by kernel_rfl) (by kernel_rfl) (by kernel_rfl) (fun _ _ _ h => h) (Or.inl ⟨by rfl, ?_⟩) (by assumption) ?_
    rotate_left
    · (intro w9 hSw; (try dsimp only at hSw); go_simp; try with_reducible rfl)
    try simp only [Act.put, List.setIfInBounds_toArray, List.set_cons_zero, List.set_cons_succ]
    refine wpAnyH_take (i := 11) (oi := ⟨some 70, Op.load 30 (Operand.tmp 6), 30, _, _, some (9, true)⟩) (v := ?_) rfl (by kernel_rfl) (by kernel_rfl) (by kernel_rfl) (fun _ _ _ h => h) (Or.inl ⟨by rfl, ?_⟩) (by assumption) ?_
    rotate_left
    · (intro w9 hSw; (try dsimp only at hSw); go_simp; try with_reducible rfl)
    try simp only [Act.put, List.setIfInBounds_toArray, List.set_cons_zero, List.set_cons_succ]
    refine wpAnyH_take (i := 13) (oi := ⟨some 72, Op.load 27 (Operand.tmp 5), 27, _, _, some (9, true)⟩) (v := ?_) rfl (by kernel_rfl) (by kernel_rfl) (by kernel_rfl) (fun _ _ _ h => h) (Or.inl ⟨by rfl, ?_⟩) (by assumption) ?_
    rotate_left
    · (intro w9 hSw; (try dsimp only at hSw); go_simp; try with_reducible rfl)
    try simp only [Act.put, List.setIfInBounds_toArray, List.set_cons_zero, List.set_cons_succ]
    refine wpAnyH_take (i := 14) (oi := ⟨some 73, Op.load 30 (Operand.tmp 6), 30, _, _, some (9, true)⟩) (v := ?_) rfl (by kernel_rfl) (by kernel_rfl) (by kernel_rfl) (fun _ _ _ h => h) (Or.inl ⟨by rfl, ?_⟩) (by assumption) ?_
    rotate_left
    · (intro w9 hSw; (try dsimp only at hSw); go_simp; try with_reducible rfl)
    try simp only [Act.put, List.setIfInBounds_toArray, List.set_cons_zero, List.set_cons_succ]
    refine wpAnyH_ready (rs := [12]) (by kernel_rfl) (by simp) ?_
    refine AllReadyH.cons (i := 12) (o := ⟨some 71, Op.call { callee := Callee.value (Operand.func 12), args := #[Operand.tmp 69, Operand.tmp 70], argTypes := #[27, 30] }, 4, _, _, some (9, true)⟩) rfl (fun K hK => ?_) AllReadyH.nil
    go_simp
    refine ((unhide KI) _ (futH (unhide HK) (S18.bel hHeld))).mono ?_
    rintro e u9 ⟨rfl, kb⟩
    have hq := S18.of ((unhide HBX).1.call (unhide HK)) ((unhide HBX).2.1.call (unhide HK)) ((unhide HBX).2.2.1.call (unhide HK)) ((unhide HBT).1.call (unhide HK)) ((unhide HBT).2.1.call (unhide HK)) ((unhide HBT).2.2.1.call (unhide HK)) (futH (S18.bel hHeld) kb)
    clear kb hHeld
    refine hK.out _ _ hq (fun hHeld => ?_)
    clear hK K hq
    try simp only [Act.put, List.setIfInBounds_toArray, List.set_cons_zero, List.set_cons_succ]
    refine wpAnyH_ready (rs := [15]) (by kernel_rfl) (by simp) ?_
    refine AllReadyH.cons (i := 15) (o := ⟨some 74, Op.call { callee := Callee.value (Operand.func 11), args := #[Operand.tmp 72, Operand.tmp 73], argTypes := #[27, 30] }, 4, _, _, some (9, true)⟩) rfl (fun K hK => ?_) AllReadyH.nil
    go_simp
    refine ((unhide KA) _ (futH (unhide HK) (S18.bel hHeld))).mono ?_
    rintro e u9 ⟨rfl, kb⟩
    have hq := S18.of ((unhide HBX).1.call (unhide HK)) ((unhide HBX).2.1.call (unhide HK)) ((unhide HBX).2.2.1.call (unhide HK)) ((unhide HBT).1.call (unhide HK)) ((unhide HBT).2.1.call (unhide HK)) ((unhide HBT).2.2.1.call (unhide HK)) (futH (S18.bel hHeld) kb)
    clear kb hHeld
    refine hK.out _ _ hq (fun hHeld => ?_)
    clear hK K hq
    try simp only [Act.put, List.setIfInBounds_toArray, List.set_cons_zero, List.set_cons_succ]
    refine wpAnyH_take (i := 16) (oi := ⟨some 75, Op.binOp BinOp.eql 4 (Operand.tmp 71) (Operand.tmp 74) 4, 4, _, _, some (9, true)⟩) (v := ?_) rfl (by kernel_rfl) (by kernel_rfl) (by kernel_rfl) (fun _ _ _ h => h) (Or.inl ⟨by rfl, ?_⟩) (by assumption) ?_
    rotate_left
    · (intro w9 hSw; (try dsimp only at hSw); go_simp; try with_reducible rfl)
    try simp only [Act.put, List.setIfInBounds_toArray, List.set_cons_zero, List.set_cons_succ]
    refine wpAnyH_take (i := 17) (oi := ⟨some 76, Op.pick (Operand.tmp 68) (Operand.tmp 75) (Operand.const (Value.bool false)), 4, _, _, none⟩) (v := ?_) rfl (by kernel_rfl) (by kernel_rfl) (by kernel_rfl) (fun _ _ _ h => h) (Or.inl ⟨by rfl, ?_⟩) (by assumption) ?_
    rotate_left
    · (intro w9 hSw; (try dsimp only at hSw); go_simp; try with_reducible rfl)
    try simp only [Act.put, List.setIfInBounds_toArray, List.set_cons_zero, List.set_cons_succ]
    refine wpAnyH_take (i := 18) (oi := ⟨some 4, Op.assign (Operand.tmp 76), 4, _, _, none⟩) (v := ?_) rfl (by kernel_rfl) (by kernel_rfl) (by kernel_rfl) (fun _ _ _ h => h) (Or.inl ⟨by rfl, ?_⟩) (by assumption) ?_
    rotate_left
    · (intro w9 hSw; (try dsimp only at hSw); go_simp; try with_reducible rfl)
    try simp only [Act.put, List.setIfInBounds_toArray, List.set_cons_zero, List.set_cons_succ]
    refine wpAnyH_done (by kernel_rfl) ?_ _
    have HB := hide ((unhide HB).trans ((futH (unhide HK) (S18.bel hHeld)).mono (unhide HB).size))
    clear hHeld
    go_wp2
    go_ret
    exact ⟨by first | rfl | (simp; done), unhide HB⟩
  cases B
  · skip
    refine wp_region_held_drew (S := (S18 ub u1.heap.size u3.heap.size (u3.heap.size + 1) (u3.heap.size + 2) (.slice a1 vs.length c1) (.slice a2 fs.length c2) (.slice a3 rs.length c3) (.bool li) (.slice oa xs.length ca) (.slice ob ys.length cb) (.bool lj) (.slice oc xs2.length cc) (.slice od ys2.length cd) (.slice f1 vt.length g1) (.slice f2 ft.length g2) (.slice f3 rt.length g3) (.bool lt) (.slice p1 xt.length h1) (.slice p2 yt.length h2) (.slice q1 it.length k1) (.slice q2 bt.length k2) (.slice q3 jt.length k3))) (by kernel_rfl) (S18.of (unhide HBX).1 (unhide HBX).2.1 (unhide HBX).2.2.1 (unhide HBT).1 (unhide HBT).2.1 (unhide HBT).2.2.1 (Below.refl ub.heap.size ub).drew) (fun hHeld => ?_)
    refine wpAnyH_take (i := 0) (oi := ⟨some 33, Op.load 27 (Operand.tmp 8), 27, _, _, none⟩) (v := ?_) rfl (by kernel_rfl) (by kernel_rfl) (by kernel_rfl) (fun _ _ _ h => h) (Or.inl ⟨by rfl, ?_⟩) (by assumption) ?_
    rotate_left
    · (intro w9 hSw; (try dsimp only at hSw); go_simp; try with_reducible rfl)
    try simp only [Act.put, List.setIfInBounds_toArray, List.set_cons_zero, List.set_cons_succ]
    refine wpAnyH_take (i := 1) (oi := ⟨some 34, Op.load 30 (Operand.tmp 9), 30, _, _, none⟩) (v := ?_) rfl (by kernel_rfl) (by kernel_rfl) (by kernel_rfl) (fun _ _ _ h => h) (Or.inl ⟨by rfl, ?_⟩) (by assumption) ?_
    rotate_left
    · (intro w9 hSw; (try dsimp only at hSw); go_simp; try with_reducible rfl)
    try simp only [Act.put, List.setIfInBounds_toArray, List.set_cons_zero, List.set_cons_succ]
    refine wpAnyH_take (i := 2) (oi := ⟨some 35, Op.load 37 (Operand.tmp 10), 37, _, _, none⟩) (v := ?_) rfl (by kernel_rfl) (by kernel_rfl) (by kernel_rfl) (fun _ _ _ h => h) (Or.inl ⟨by rfl, ?_⟩) (by assumption) ?_
    rotate_left
    · (intro w9 hSw; (try dsimp only at hSw); go_simp; try with_reducible rfl)
    try simp only [Act.put, List.setIfInBounds_toArray, List.set_cons_zero, List.set_cons_succ]
    refine wpAnyH_take (i := 4) (oi := ⟨some 37, Op.load 27 (Operand.tmp 8), 27, _, _, none⟩) (v := ?_) rfl (by kernel_rfl) (by kernel_rfl) (by kernel_rfl) (fun _ _ _ h => h) (Or.inl ⟨by rfl, ?_⟩) (by assumption) ?_
    rotate_left
    · (intro w9 hSw; (try dsimp only at hSw); go_simp; try with_reducible rfl)
    try simp only [Act.put, List.setIfInBounds_toArray, List.set_cons_zero, List.set_cons_succ]
    refine wpAnyH_take (i := 5) (oi := ⟨some 38, Op.load 30 (Operand.tmp 9), 30, _, _, none⟩) (v := ?_) rfl (by kernel_rfl) (by kernel_rfl) (by kernel_rfl) (fun _ _ _ h => h) (Or.inl ⟨by rfl, ?_⟩) (by assumption) ?_
    rotate_left
    · (intro w9 hSw; (try dsimp only at hSw); go_simp; try with_reducible rfl)
    try simp only [Act.put, List.setIfInBounds_toArray, List.set_cons_zero, List.set_cons_succ]
    refine wpAnyH_take (i := 6) (oi := ⟨some 39, Op.load 37 (Operand.tmp 10), 37, _, _, none⟩) (v := ?_) rfl (by kernel_rfl) (by kernel_rfl) (by kernel_rfl) (fun _ _ _ h => h) (Or.inl ⟨by rfl, ?_⟩) (by assumption) ?_
    rotate_left
    · (intro w9 hSw; (try dsimp only at hSw); go_simp; try with_reducible rfl)
    try simp only [Act.put, List.setIfInBounds_toArray, List.set_cons_zero, List.set_cons_succ]
    refine wpAnyH_ready (rs := [3]) (by kernel_rfl) (by simp) ?_
    refine AllReadyH.cons (i := 3) (o := ⟨some 36, Op.call { callee := Callee.value (Operand.func 9), args := #[Operand.tmp 33, Operand.tmp 34, Operand.tmp 35], argTypes := #[27, 30, 37] }, 4, _, _, none⟩) rfl (fun K hK => ?_) AllReadyH.nil
    go_simp
    refine ((unhide KH) _ (S18.bel hHeld)).mono ?_
    rintro e u9 ⟨rfl, kb⟩
    have hq := S18.of (unhide HBX).1 (unhide HBX).2.1 (unhide HBX).2.2.1 (unhide HBT).1 (unhide HBT).2.1 (unhide HBT).2.2.1 (futH (S18.bel hHeld) kb)
    clear kb hHeld
    refine hK.out _ _ hq (fun hHeld => ?_)
    clear hK K hq
    try simp only [Act.put, List.setIfInBounds_toArray, List.set_cons_zero, List.set_cons_succ]
    refine wpAnyH_ready (rs := [7]) (by kernel_rfl) (by simp) ?_
    refine AllReadyH.cons (i := 7) (o := ⟨some 40, Op.call { callee := Callee.value (Operand.func 10), args := #[Operand.tmp 37, Operand.tmp 38, Operand.tmp 39], argTypes := #[27, 30, 37] }, 4, _, _, none⟩) rfl (fun K hK => ?_) AllReadyH.nil
    go_simp
    refine ((unhide KHS) _ (S18.bel hHeld)).mono ?_
    rintro e u9 ⟨rfl, kb⟩
    have hq := S18.of (unhide HBX).1 (unhide HBX).2.1 (unhide HBX).2.2.1 (unhide HBT).1 (unhide HBT).2.1 (unhide HBT).2.2.1 (futH (S18.bel hHeld) kb)
    clear kb hHeld
    refine hK.out _ _ hq (fun hHeld => ?_)
    clear hK K hq
    try simp only [Act.put, List.setIfInBounds_toArray, List.set_cons_zero, List.set_cons_succ]
    refine wpAnyH_take (i := 8) (oi := ⟨some 41, Op.binOp BinOp.neq 4 (Operand.tmp 36) (Operand.tmp 40) 4, 4, _, _, none⟩) (v := ?_) rfl (by kernel_rfl) (by kernel_rfl) (by kernel_rfl) (fun _ _ _ h => h) (Or.inl ⟨by rfl, ?_⟩) (by assumption) ?_
    rotate_left
    · (intro w9 hSw; (try dsimp only at hSw); go_simp; try with_reducible rfl)
    try simp only [Act.put, List.setIfInBounds_toArray, List.set_cons_zero, List.set_cons_succ]
    refine wpAnyH_take (i := 9) (oi := ⟨some 42, Op.move (Operand.tmp 41), 4, _, _, none⟩) (v := ?_) rfl (by kernel_rfl) (by kernel_rfl) (by kernel_rfl) (fun _ _ _ h => h) (Or.inl ⟨by rfl, ?_⟩) (by assumption) ?_
    rotate_left
    · (intro w9 hSw; (try dsimp only at hSw); go_simp; try with_reducible rfl)
    try simp only [Act.put, List.setIfInBounds_toArray, List.set_cons_zero, List.set_cons_succ]
    refine wpAnyH_take (i := 10) (oi := ⟨some 43, Op.load 27 (Operand.tmp 5), 27, _, _, some (9, false)⟩) (v := ?_) rfl (by kernel_rfl) (by kernel_rfl) (by kernel_rfl) (fun _ _ _ h => h) (Or.inl ⟨by rfl, ?_⟩) (by assumption) ?_
    rotate_left
    · (intro w9 hSw; (try dsimp only at hSw); go_simp; try with_reducible rfl)
    try simp only [Act.put, List.setIfInBounds_toArray, List.set_cons_zero, List.set_cons_succ]
    refine wpAnyH_take (i := 11) (oi := ⟨some 44, Op.load 30 (Operand.tmp 6), 30, _, _, some (9, false)⟩) (v := ?_) rfl (by kernel_rfl) (by kernel_rfl) (by kernel_rfl) (fun _ _ _ h => h) (Or.inl ⟨by rfl, ?_⟩) (by assumption) ?_
    rotate_left
    · (intro w9 hSw; (try dsimp only at hSw); go_simp; try with_reducible rfl)
    try simp only [Act.put, List.setIfInBounds_toArray, List.set_cons_zero, List.set_cons_succ]
    refine wpAnyH_ready (rs := [12]) (by kernel_rfl) (by simp) ?_
    refine AllReadyH.cons (i := 12) (o := ⟨some 45, Op.call { callee := Callee.value (Operand.func 11), args := #[Operand.tmp 43, Operand.tmp 44], argTypes := #[27, 30] }, 4, _, _, some (9, false)⟩) rfl (fun K hK => ?_) AllReadyH.nil
    go_simp
    refine ((unhide KA) _ (S18.bel hHeld)).mono ?_
    rintro e u9 ⟨rfl, kb⟩
    have hq := S18.of (unhide HBX).1 (unhide HBX).2.1 (unhide HBX).2.2.1 (unhide HBT).1 (unhide HBT).2.1 (unhide HBT).2.2.1 (futH (S18.bel hHeld) kb)
    clear kb hHeld
    refine hK.out _ _ hq (fun hHeld => ?_)
    clear hK K hq
    try simp only [Act.put, List.setIfInBounds_toArray, List.set_cons_zero, List.set_cons_succ]
    refine wpAnyH_take (i := 13) (oi := ⟨some 46, Op.unOp UnOp.not 4 (Operand.tmp 45), 4, _, _, some (9, false)⟩) (v := ?_) rfl (by kernel_rfl) (by kernel_rfl) (by kernel_rfl) (fun _ _ _ h => h) (Or.inl ⟨by rfl, ?_⟩) (by assumption) ?_
    rotate_left
    · (intro w9 hSw; (try dsimp only at hSw); go_simp; try with_reducible rfl)
    try simp only [Act.put, List.setIfInBounds_toArray, List.set_cons_zero, List.set_cons_succ]
    refine wpAnyH_take (i := 14) (oi := ⟨some 47, Op.pick (Operand.tmp 42) (Operand.const (Value.bool true)) (Operand.tmp 46), 4, _, _, none⟩) (v := ?_) rfl (by kernel_rfl) (by kernel_rfl) (by kernel_rfl) (fun _ _ _ h => h) (Or.inl ⟨by rfl, ?_⟩) (by assumption) ?_
    rotate_left
    · (intro w9 hSw; (try dsimp only at hSw); go_simp; try with_reducible rfl)
    try simp only [Act.put, List.setIfInBounds_toArray, List.set_cons_zero, List.set_cons_succ]
    refine wpAnyH_take (i := 15) (oi := ⟨some 48, Op.move (Operand.tmp 47), 4, _, _, none⟩) (v := ?_) rfl (by kernel_rfl) (by kernel_rfl) (by kernel_rfl) (fun _ _ _ h => h) (Or.inl ⟨by rfl, ?_⟩) (by assumption) ?_
    rotate_left
    · (intro w9 hSw; (try dsimp only at hSw); go_simp; try with_reducible rfl)
    try simp only [Act.put, List.setIfInBounds_toArray, List.set_cons_zero, List.set_cons_succ]
    refine wpAnyH_take (i := 16) (oi := ⟨some 49, Op.load 27 (Operand.tmp 5), 27, _, _, some (15, false)⟩) (v := ?_) rfl (by kernel_rfl) (by kernel_rfl) (by kernel_rfl) (fun _ _ _ h => h) (Or.inl ⟨by rfl, ?_⟩) (by assumption) ?_
    rotate_left
    · (intro w9 hSw; (try dsimp only at hSw); go_simp; try with_reducible rfl)
    try simp only [Act.put, List.setIfInBounds_toArray, List.set_cons_zero, List.set_cons_succ]
    refine wpAnyH_take (i := 17) (oi := ⟨some 50, Op.load 30 (Operand.tmp 7), 30, _, _, some (15, false)⟩) (v := ?_) rfl (by kernel_rfl) (by kernel_rfl) (by kernel_rfl) (fun _ _ _ h => h) (Or.inl ⟨by rfl, ?_⟩) (by assumption) ?_
    rotate_left
    · (intro w9 hSw; (try dsimp only at hSw); go_simp; try with_reducible rfl)
    try simp only [Act.put, List.setIfInBounds_toArray, List.set_cons_zero, List.set_cons_succ]
    refine wpAnyH_ready (rs := [18]) (by kernel_rfl) (by simp) ?_
    refine AllReadyH.cons (i := 18) (o := ⟨some 51, Op.call { callee := Callee.value (Operand.func 11), args := #[Operand.tmp 49, Operand.tmp 50], argTypes := #[27, 30] }, 4, _, _, some (15, false)⟩) rfl (fun K hK => ?_) AllReadyH.nil
    go_simp
    refine ((unhide KB) _ (S18.bel hHeld)).mono ?_
    rintro e u9 ⟨rfl, kb⟩
    have hq := S18.of (unhide HBX).1 (unhide HBX).2.1 (unhide HBX).2.2.1 (unhide HBT).1 (unhide HBT).2.1 (unhide HBT).2.2.1 (futH (S18.bel hHeld) kb)
    clear kb hHeld
    refine hK.out _ _ hq (fun hHeld => ?_)
    clear hK K hq
    try simp only [Act.put, List.setIfInBounds_toArray, List.set_cons_zero, List.set_cons_succ]
    refine wpAnyH_take (i := 19) (oi := ⟨some 52, Op.unOp UnOp.not 4 (Operand.tmp 51), 4, _, _, some (15, false)⟩) (v := ?_) rfl (by kernel_rfl) (by kernel_rfl) (by kernel_rfl) (fun _ _ _ h => h) (Or.inl ⟨by rfl, ?_⟩) (by assumption) ?_
    rotate_left
    · (intro w9 hSw; (try dsimp only at hSw); go_simp; try with_reducible rfl)
    try simp only [Act.put, List.setIfInBounds_toArray, List.set_cons_zero, List.set_cons_succ]
    refine wpAnyH_take (i := 20) (oi := ⟨some 53, Op.pick (Operand.tmp 48) (Operand.const (Value.bool true)) (Operand.tmp 52), 4, _, _, none⟩) (v := ?_) rfl (by kernel_rfl) (by kernel_rfl) (by kernel_rfl) (fun _ _ _ h => h) (Or.inl ⟨by rfl, ?_⟩) (by assumption) ?_
    rotate_left
    · (intro w9 hSw; (try dsimp only at hSw); go_simp; try with_reducible rfl)
    try simp only [Act.put, List.setIfInBounds_toArray, List.set_cons_zero, List.set_cons_succ]
    refine wpAnyH_take (i := 21) (oi := ⟨some 54, Op.move (Operand.tmp 53), 4, _, _, none⟩) (v := ?_) rfl (by kernel_rfl) (by kernel_rfl) (by kernel_rfl) (fun _ _ _ h => h) (Or.inl ⟨by rfl, ?_⟩) (by assumption) ?_
    rotate_left
    · (intro w9 hSw; (try dsimp only at hSw); go_simp; try with_reducible rfl)
    try simp only [Act.put, List.setIfInBounds_toArray, List.set_cons_zero, List.set_cons_succ]
    refine wpAnyH_take (i := 22) (oi := ⟨some 55, Op.fieldAddr 30 (Operand.tmp 6) 0, 0, _, _, some (21, false)⟩) (v := undef) rfl (by kernel_rfl) (by kernel_rfl) (by kernel_rfl) (fun _ _ _ h => h) (Or.inr ⟨by rfl, rfl⟩) (by assumption) ?_
    try simp only [Act.put, List.setIfInBounds_toArray, List.set_cons_zero, List.set_cons_succ]
    refine wpAnyH_take (i := 23) (oi := ⟨some 56, Op.load 4 (Operand.tmp 55), 4, _, _, some (21, false)⟩) (v := undef) rfl (by kernel_rfl) (by kernel_rfl) (by kernel_rfl) (fun _ _ _ h => h) (Or.inr ⟨by rfl, rfl⟩) (by assumption) ?_
    try simp only [Act.put, List.setIfInBounds_toArray, List.set_cons_zero, List.set_cons_succ]
    refine wpAnyH_take (i := 24) (oi := ⟨some 57, Op.unOp UnOp.not 4 (Operand.tmp 56), 4, _, _, some (21, false)⟩) (v := undef) rfl (by kernel_rfl) (by kernel_rfl) (by kernel_rfl) (fun _ _ _ h => h) (Or.inr ⟨by rfl, rfl⟩) (by assumption) ?_
    try simp only [Act.put, List.setIfInBounds_toArray, List.set_cons_zero, List.set_cons_succ]
    refine wpAnyH_take (i := 25) (oi := ⟨some 58, Op.pick (Operand.tmp 54) (Operand.const (Value.bool true)) (Operand.tmp 57), 4, _, _, none⟩) (v := ?_) rfl (by kernel_rfl) (by kernel_rfl) (by kernel_rfl) (fun _ _ _ h => h) (Or.inl ⟨by rfl, ?_⟩) (by assumption) ?_
    rotate_left
    · (intro w9 hSw; (try dsimp only at hSw); go_simp; try with_reducible rfl)
    try simp only [Act.put, List.setIfInBounds_toArray, List.set_cons_zero, List.set_cons_succ]
    refine wpAnyH_done (by kernel_rfl) ?_ _
    have HK := hide (S18.bel hHeld)
    clear hHeld
    generalize u9 = ur at HK ⊢
    go_upto_region 6 with fail
    refine wp_region_held_drew (S := (S18 ur u1.heap.size u3.heap.size (u3.heap.size + 1) (u3.heap.size + 2) (.slice a1 vs.length c1) (.slice a2 fs.length c2) (.slice a3 rs.length c3) (.bool li) (.slice oa xs.length ca) (.slice ob ys.length cb) (.bool lj) (.slice oc xs2.length cc) (.slice od ys2.length cd) (.slice f1 vt.length g1) (.slice f2 ft.length g2) (.slice f3 rt.length g3) (.bool lt) (.slice p1 xt.length h1) (.slice p2 yt.length h2) (.slice q1 it.length k1) (.slice q2 bt.length k2) (.slice q3 jt.length k3))) (by kernel_rfl) (S18.of ((unhide HBX).1.call (unhide HK)) ((unhide HBX).2.1.call (unhide HK)) ((unhide HBX).2.2.1.call (unhide HK)) ((unhide HBT).1.call (unhide HK)) ((unhide HBT).2.1.call (unhide HK)) ((unhide HBT).2.2.1.call (unhide HK)) (Below.refl ur.heap.size ur).drew) (fun hHeld => ?_)
    refine wpAnyH_take (i := 0) (oi := ⟨some 59, Op.load 27 (Operand.tmp 8), 27, _, _, none⟩) (v := ?_) rfl (by kernel_rfl) (by kernel_rfl) (by kernel_rfl) (fun _ _ _ h => h) (Or.inl ⟨by rfl, ?_⟩) (by assumption) ?_
    rotate_left
    · (intro w9 hSw; (try dsimp only at hSw); go_simp; try with_reducible rfl)
    try simp only [Act.put, List.setIfInBounds_toArray, List.set_cons_zero, List.set_cons_succ]
    refine wpAnyH_take (i := 1) (oi := ⟨some 60, Op.load 30 (Operand.tmp 9), 30, _, _, none⟩) (v := ?_) rfl (by kernel_rfl) (by kernel_rfl) (by kernel_rfl) (fun _ _ _ h => h) (Or.inl ⟨by rfl, ?_⟩) (by assumption) ?_
    rotate_left
    · (intro w9 hSw; (try dsimp only at hSw); go_simp; try with_reducible rfl)
    try simp only [Act.put, List.setIfInBounds_toArray, List.set_cons_zero, List.set_cons_succ]
    refine wpAnyH_take (i := 2) (oi := ⟨some 61, Op.load 37 (Operand.tmp 10), 37, _, _, none⟩) (v := ?_) rfl (by kernel_rfl) (by kernel_rfl) (by kernel_rfl) (fun _ _ _ h => h) (Or.inl ⟨by rfl, ?_⟩) (by assumption) ?_
    rotate_left
    · (intro w9 hSw; (try dsimp only at hSw); go_simp; try with_reducible rfl)
    try simp only [Act.put, List.setIfInBounds_toArray, List.set_cons_zero, List.set_cons_succ]
    refine wpAnyH_take (i := 4) (oi := ⟨some 63, Op.load 27 (Operand.tmp 8), 27, _, _, none⟩) (v := ?_) rfl (by kernel_rfl) (by kernel_rfl) (by kernel_rfl) (fun _ _ _ h => h) (Or.inl ⟨by rfl, ?_⟩) (by assumption) ?_
    rotate_left
    · (intro w9 hSw; (try dsimp only at hSw); go_simp; try with_reducible rfl)
    try simp only [Act.put, List.setIfInBounds_toArray, List.set_cons_zero, List.set_cons_succ]
    refine wpAnyH_take (i := 5) (oi := ⟨some 64, Op.load 30 (Operand.tmp 9), 30, _, _, none⟩) (v := ?_) rfl (by kernel_rfl) (by kernel_rfl) (by kernel_rfl) (fun _ _ _ h => h) (Or.inl ⟨by rfl, ?_⟩) (by assumption) ?_
    rotate_left
    · (intro w9 hSw; (try dsimp only at hSw); go_simp; try with_reducible rfl)
    try simp only [Act.put, List.setIfInBounds_toArray, List.set_cons_zero, List.set_cons_succ]
    refine wpAnyH_take (i := 6) (oi := ⟨some 65, Op.load 37 (Operand.tmp 10), 37, _, _, none⟩) (v := ?_) rfl (by kernel_rfl) (by kernel_rfl) (by kernel_rfl) (fun _ _ _ h => h) (Or.inl ⟨by rfl, ?_⟩) (by assumption) ?_
    rotate_left
    · (intro w9 hSw; (try dsimp only at hSw); go_simp; try with_reducible rfl)
    try simp only [Act.put, List.setIfInBounds_toArray, List.set_cons_zero, List.set_cons_succ]
    refine wpAnyH_ready (rs := [3]) (by kernel_rfl) (by simp) ?_
    refine AllReadyH.cons (i := 3) (o := ⟨some 62, Op.call { callee := Callee.value (Operand.func 9), args := #[Operand.tmp 59, Operand.tmp 60, Operand.tmp 61], argTypes := #[27, 30, 37] }, 4, _, _, none⟩) rfl (fun K hK => ?_) AllReadyH.nil
    go_simp
    refine ((unhide KH) _ (futH (unhide HK) (S18.bel hHeld))).mono ?_
    rintro e u9 ⟨rfl, kb⟩
    have hq := S18.of ((unhide HBX).1.call (unhide HK)) ((unhide HBX).2.1.call (unhide HK)) ((unhide HBX).2.2.1.call (unhide HK)) ((unhide HBT).1.call (unhide HK)) ((unhide HBT).2.1.call (unhide HK)) ((unhide HBT).2.2.1.call (unhide HK)) (futH (S18.bel hHeld) kb)
    clear kb hHeld
    refine hK.out _ _ hq (fun hHeld => ?_)
    clear hK K hq
    try simp only [Act.put, List.setIfInBounds_toArray, List.set_cons_zero, List.set_cons_succ]
    refine wpAnyH_ready (rs := [7]) (by kernel_rfl) (by simp) ?_
    refine AllReadyH.cons (i := 7) (o := ⟨some 66, Op.call { callee := Callee.value (Operand.func 10), args := #[Operand.tmp 63, Operand.tmp 64, Operand.tmp 65], argTypes := #[27, 30, 37] }, 4, _, _, none⟩) rfl (fun K hK => ?_) AllReadyH.nil
    go_simp
    refine ((unhide KHS) _ (futH (unhide HK) (S18.bel hHeld))).mono ?_
    rintro e u9 ⟨rfl, kb⟩
    have hq := S18.of ((unhide HBX).1.call (unhide HK)) ((unhide HBX).2.1.call (unhide HK)) ((unhide HBX).2.2.1.call (unhide HK)) ((unhide HBT).1.call (unhide HK)) ((unhide HBT).2.1.call (unhide HK)) ((unhide HBT).2.2.1.call (unhide HK)) (futH (S18.bel hHeld) kb)
    clear kb hHeld
    refine hK.out _ _ hq (fun hHeld => ?_)
    clear hK K hq
    try simp only [Act.put, List.setIfInBounds_toArray, List.set_cons_zero, List.set_cons_succ]
    refine wpAnyH_take (i := 8) (oi := ⟨some 67, Op.binOp BinOp.eql 4 (Operand.tmp 62) (Operand.tmp 66) 4, 4, _, _, none⟩) (v := ?_) rfl (by kernel_rfl) (by kernel_rfl) (by kernel_rfl) (fun _ _ _ h => h) (Or.inl ⟨by rfl, ?_⟩) (by assumption) ?_
    rotate_left
    · (intro w9 hSw; (try dsimp only at hSw); go_simp; try with_reducible rfl)
    try simp only [Act.put, List.setIfInBounds_toArray, List.set_cons_zero, List.set_cons_succ]
    refine wpAnyH_take (i := 9) (oi := ⟨some 68, Op.move (Operand.tmp 67), 4, _, _, none⟩) (v := ?_) rfl (by kernel_rfl) (by kernel_rfl) (by kernel_rfl) (fun _ _ _ h => h) (Or.inl ⟨by rfl, ?_⟩) (by assumption) ?_
    rotate_left
    · (intro w9 hSw; (try dsimp only at hSw); go_simp; try with_reducible rfl)
    try simp only [Act.put, List.setIfInBounds_toArray, List.set_cons_zero, List.set_cons_succ]
    refine wpAnyH_take (i := 10) (oi := ⟨some 69, Op.load 27 (Operand.tmp 5), 27, _, _, some (9, true)⟩) (v := ?_) rfl (by kernel_rfl) (by kernel_rfl) (by kernel_rfl) (fun _ _ _ h => h) (Or.inl ⟨by rfl, ?_⟩) (by assumption) ?_
    rotate_left
    · (intro w9 hSw; (try dsimp only at hSw); go_simp; try with_reducible rfl)
    try simp only [Act.put, List.setIfInBounds_toArray, List.set_cons_zero, List.set_cons_succ]
    refine wpAnyH_take (i := 11) (oi := ⟨some 70, Op.load 30 (Operand.tmp 6), 30, _, _, some (9, true)⟩) (v := ?_) rfl (by kernel_rfl) (by kernel_rfl) (by kernel_rfl) (fun _ _ _ h => h) (Or.inl ⟨by rfl, ?_⟩) (by assumption) ?_
    rotate_left
    · (intro w9 hSw; (try dsimp only at hSw); go_simp; try with_reducible rfl)
    try simp only [Act.put, List.setIfInBounds_toArray, List.set_cons_zero, List.set_cons_succ]
    refine wpAnyH_take (i := 13) (oi := ⟨some 72, Op.load 27 (Operand.tmp 5), 27, _, _, some (9, true)⟩) (v := ?_) rfl (by kernel_rfl) (by kernel_rfl) (by kernel_rfl) (fun _ _ _ h => h) (Or.inl ⟨by rfl, ?_⟩) (by assumption) ?_
    rotate_left
    · (intro w9 hSw; (try dsimp only at hSw); go_simp; try with_reducible rfl)
    try simp only [Act.put, List.setIfInBounds_toArray, List.set_cons_zero, List.set_cons_succ]
    refine wpAnyH_take (i := 14) (oi := ⟨some 73, Op.load 30 (Operand.tmp 6), 30, _, _, some (9, true)⟩) (v := ?_) rfl (by kernel_rfl) (by kernel_rfl) (by kernel_rfl) (fun _ _ _ h => h) (Or.inl ⟨by rfl, ?_⟩) (by assumption) ?_
    rotate_left
    · (intro w9 hSw; (try dsimp only at hSw); go_simp; try with_reducible rfl)
    try simp only [Act.put, List.setIfInBounds_toArray, List.set_cons_zero, List.set_cons_succ]
    refine wpAnyH_ready (rs := [12]) (by kernel_rfl) (by simp) ?_
    refine AllReadyH.cons (i := 12) (o := ⟨some 71, Op.call { callee := Callee.value (Operand.func 12), args := #[Operand.tmp 69, Operand.tmp 70], argTypes := #[27, 30] }, 4, _, _, some (9, true)⟩) rfl (fun K hK => ?_) AllReadyH.nil
    go_simp
    refine ((unhide KI) _ (futH (unhide HK) (S18.bel hHeld))).mono ?_
    rintro e u9 ⟨rfl, kb⟩
    have hq := S18.of ((unhide HBX).1.call (unhide HK)) ((unhide HBX).2.1.call (unhide HK)) ((unhide HBX).2.2.1.call (unhide HK)) ((unhide HBT).1.call (unhide HK)) ((unhide HBT).2.1.call (unhide HK)) ((unhide HBT).2.2.1.call (unhide HK)) (futH (S18.bel hHeld) kb)
    clear kb hHeld
    refine hK.out _ _ hq (fun hHeld => ?_)
    clear hK K hq
    try simp only [Act.put, List.setIfInBounds_toArray, List.set_cons_zero, List.set_cons_succ]
    refine wpAnyH_ready (rs := [15]) (by kernel_rfl) (by simp) ?_
    refine AllReadyH.cons (i := 15) (o := ⟨some 74, Op.call { callee := Callee.value (Operand.func 11), args := #[Operand.tmp 72, Operand.tmp 73], argTypes := #[27, 30] }, 4, _, _, some (9, true)⟩) rfl (fun K hK => ?_) AllReadyH.nil
    go_simp
    refine ((unhide KA) _ (futH (unhide HK) (S18.bel hHeld))).mono ?_
    rintro e u9 ⟨rfl, kb⟩
    have hq := S18.of ((unhide HBX).1.call (unhide HK)) ((unhide HBX).2.1.call (unhide HK)) ((unhide HBX).2.2.1.call (unhide HK)) ((unhide HBT).1.call (unhide HK)) ((unhide HBT).2.1.call (unhide HK)) ((unhide HBT).2.2.1.call (unhide HK)) (futH (S18.bel hHeld) kb)
    clear kb hHeld
    refine hK.out _ _ hq (fun hHeld => ?_)
    clear hK K hq
    try simp only [Act.put, List.setIfInBounds_toArray, List.set_cons_zero, List.set_cons_succ]
    refine wpAnyH_take (i := 16) (oi := ⟨some 75, Op.binOp BinOp.eql 4 (Operand.tmp 71) (Operand.tmp 74) 4, 4, _, _, some (9, true)⟩) (v := ?_) rfl (by kernel_rfl) (by kernel_rfl) (by kernel_rfl) (fun _ _ _ h => h) (Or.inl ⟨by rfl, ?_⟩) (by assumption) ?_
    rotate_left
    · (intro w9 hSw; (try dsimp only at hSw); go_simp; try with_reducible rfl)
    try simp only [Act.put, List.setIfInBounds_toArray, List.set_cons_zero, List.set_cons_succ]
    refine wpAnyH_take (i := 17) (oi := ⟨some 76, Op.pick (Operand.tmp 68) (Operand.tmp 75) (Operand.const (Value.bool false)), 4, _, _, none⟩) (v := ?_) rfl (by kernel_rfl) (by kernel_rfl) (by kernel_rfl) (fun _ _ _ h => h) (Or.inl ⟨by rfl, ?_⟩) (by assumption) ?_
    rotate_left
    · (intro w9 hSw; (try dsimp only at hSw); go_simp; try with_reducible rfl)
    try simp only [Act.put, List.setIfInBounds_toArray, List.set_cons_zero, List.set_cons_succ]
    refine wpAnyH_take (i := 18) (oi := ⟨some 4, Op.assign (Operand.tmp 76), 4, _, _, none⟩) (v := ?_) rfl (by kernel_rfl) (by kernel_rfl) (by kernel_rfl) (fun _ _ _ h => h) (Or.inl ⟨by rfl, ?_⟩) (by assumption) ?_
    rotate_left
    · (intro w9 hSw; (try dsimp only at hSw); go_simp; try with_reducible rfl)
    try simp only [Act.put, List.setIfInBounds_toArray, List.set_cons_zero, List.set_cons_succ]
    refine wpAnyH_done (by kernel_rfl) ?_ _
    have HB := hide ((unhide HB).trans ((futH (unhide HK) (S18.bel hHeld)).mono (unhide HB).size))
    clear hHeld
    go_wp2
    go_ret
    exact ⟨by first | rfl | (simp; done), unhide HB⟩
  cases li
  · skip
    refine wp_region_held_drew (S := (S18 ub u1.heap.size u3.heap.size (u3.heap.size + 1) (u3.heap.size + 2) (.slice a1 vs.length c1) (.slice a2 fs.length c2) (.slice a3 rs.length c3) (.bool false) (.slice oa xs.length ca) (.slice ob ys.length cb) (.bool lj) (.slice oc xs2.length cc) (.slice od ys2.length cd) (.slice f1 vt.length g1) (.slice f2 ft.length g2) (.slice f3 rt.length g3) (.bool lt) (.slice p1 xt.length h1) (.slice p2 yt.length h2) (.slice q1 it.length k1) (.slice q2 bt.length k2) (.slice q3 jt.length k3))) (by kernel_rfl) (S18.of (unhide HBX).1 (unhide HBX).2.1 (unhide HBX).2.2.1 (unhide HBT).1 (unhide HBT).2.1 (unhide HBT).2.2.1 (Below.refl ub.heap.size ub).drew) (fun hHeld => ?_)
    refine wpAnyH_take (i := 0) (oi := ⟨some 33, Op.load 27 (Operand.tmp 8), 27, _, _, none⟩) (v := ?_) rfl (by kernel_rfl) (by kernel_rfl) (by kernel_rfl) (fun _ _ _ h => h) (Or.inl ⟨by rfl, ?_⟩) (by assumption) ?_
    rotate_left
    · (intro w9 hSw; (try dsimp only at hSw); go_simp; try with_reducible rfl)
    try simp only [Act.put, List.setIfInBounds_toArray, List.set_cons_zero, List.set_cons_succ]
    refine wpAnyH_take (i := 1) (oi := ⟨some 34, Op.load 30 (Operand.tmp 9), 30, _, _, none⟩) (v := ?_) rfl (by kernel_rfl) (by kernel_rfl) (by kernel_rfl) (fun _ _ _ h => h) (Or.inl ⟨by rfl, ?_⟩) (by assumption) ?_
    rotate_left
    · (intro w9 hSw; (try dsimp only at hSw); go_simp; try with_reducible rfl)
    try simp only [Act.put, List.setIfInBounds_toArray, List.set_cons_zero, List.set_cons_succ]
    refine wpAnyH_take (i := 2) (oi := ⟨some 35, Op.load 37 (Operand.tmp 10), 37, _, _, none⟩) (v := ?_) rfl (by kernel_rfl) (by kernel_rfl) (by kernel_rfl) (fun _ _ _ h => h) (Or.inl ⟨by rfl, ?_⟩) (by assumption) ?_
    rotate_left
    · (intro w9 hSw; (try dsimp only at hSw); go_simp; try with_reducible rfl)
    try simp only [Act.put, List.setIfInBounds_toArray, List.set_cons_zero, List.set_cons_succ]
    refine wpAnyH_take (i := 4) (oi := ⟨some 37, Op.load 27 (Operand.tmp 8), 27, _, _, none⟩) (v := ?_) rfl (by kernel_rfl) (by kernel_rfl) (by kernel_rfl) (fun _ _ _ h => h) (Or.inl ⟨by rfl, ?_⟩) (by assumption) ?_
    rotate_left
    · (intro w9 hSw; (try dsimp only at hSw); go_simp; try with_reducible rfl)
    try simp only [Act.put, List.setIfInBounds_toArray, List.set_cons_zero, List.set_cons_succ]
    refine wpAnyH_take (i := 5) (oi := ⟨some 38, Op.load 30 (Operand.tmp 9), 30, _, _, none⟩) (v := ?_) rfl (by kernel_rfl) (by kernel_rfl) (by kernel_rfl) (fun _ _ _ h => h) (Or.inl ⟨by rfl, ?_⟩) (by assumption) ?_
    rotate_left
    · (intro w9 hSw; (try dsimp only at hSw); go_simp; try with_reducible rfl)
    try simp only [Act.put, List.setIfInBounds_toArray, List.set_cons_zero, List.set_cons_succ]
    refine wpAnyH_take (i := 6) (oi := ⟨some 39, Op.load 37 (Operand.tmp 10), 37, _, _, none⟩) (v := ?_) rfl (by kernel_rfl) (by kernel_rfl) (by kernel_rfl) (fun _ _ _ h => h) (Or.inl ⟨by rfl, ?_⟩) (by assumption) ?_
    rotate_left
    · (intro w9 hSw; (try dsimp only at hSw); go_simp; try with_reducible rfl)
    try simp only [Act.put, List.setIfInBounds_toArray, List.set_cons_zero, List.set_cons_succ]
    refine wpAnyH_ready (rs := [3]) (by kernel_rfl) (by simp) ?_
    refine AllReadyH.cons (i := 3) (o := ⟨some 36, Op.call { callee := Callee.value (Operand.func 9), args := #[Operand.tmp 33, Operand.tmp 34, Operand.tmp 35], argTypes := #[27, 30, 37] }, 4, _, _, none⟩) rfl (fun K hK => ?_) AllReadyH.nil
    go_simp
    refine ((unhide KH) _ (S18.bel hHeld)).mono ?_
    rintro e u9 ⟨rfl, kb⟩
    have hq := S18.of (unhide HBX).1 (unhide HBX).2.1 (unhide HBX).2.2.1 (unhide HBT).1 (unhide HBT).2.1 (unhide HBT).2.2.1 (futH (S18.bel hHeld) kb)
    clear kb hHeld
    refine hK.out _ _ hq (fun hHeld => ?_)
    clear hK K hq
    try simp only [Act.put, List.setIfInBounds_toArray, List.set_cons_zero, List.set_cons_succ]
    refine wpAnyH_ready (rs := [7]) (by kernel_rfl) (by simp) ?_
    refine AllReadyH.cons (i := 7) (o := ⟨some 40, Op.call { callee := Callee.value (Operand.func 10), args := #[Operand.tmp 37, Operand.tmp 38, Operand.tmp 39], argTypes := #[27, 30, 37] }, 4, _, _, none⟩) rfl (fun K hK => ?_) AllReadyH.nil
    go_simp
    refine ((unhide KHS) _ (S18.bel hHeld)).mono ?_
    rintro e u9 ⟨rfl, kb⟩
    have hq := S18.of (unhide HBX).1 (unhide HBX).2.1 (unhide HBX).2.2.1 (unhide HBT).1 (unhide HBT).2.1 (unhide HBT).2.2.1 (futH (S18.bel hHeld) kb)
    clear kb hHeld
    refine hK.out _ _ hq (fun hHeld => ?_)
    clear hK K hq
    try simp only [Act.put, List.setIfInBounds_toArray, List.set_cons_zero, List.set_cons_succ]
    refine wpAnyH_take (i := 8) (oi := ⟨some 41, Op.binOp BinOp.neq 4 (Operand.tmp 36) (Operand.tmp 40) 4, 4, _, _, none⟩) (v := ?_) rfl (by kernel_rfl) (by kernel_rfl) (by kernel_rfl) (fun _ _ _ h => h) (Or.inl ⟨by rfl, ?_⟩) (by assumption) ?_
    rotate_left
    · (intro w9 hSw; (try dsimp only at hSw); go_simp; try with_reducible rfl)
    try simp only [Act.put, List.setIfInBounds_toArray, List.set_cons_zero, List.set_cons_succ]
    refine wpAnyH_take (i := 9) (oi := ⟨some 42, Op.move (Operand.tmp 41), 4, _, _, none⟩) (v := ?_) rfl (by kernel_rfl) (by kernel_rfl) (by kernel_rfl) (fun _ _ _ h => h) (Or.inl ⟨by rfl, ?_⟩) (by assumption) ?_
    rotate_left
    · (intro w9 hSw; (try dsimp only at hSw); go_simp; try with_reducible rfl)
    try simp only [Act.put, List.setIfInBounds_toArray, List.set_cons_zero, List.set_cons_succ]
    refine wpAnyH_take (i := 10) (oi := ⟨some 43, Op.load 27 (Operand.tmp 5), 27, _, _, some (9, false)⟩) (v := ?_) rfl (by kernel_rfl) (by kernel_rfl) (by kernel_rfl) (fun _ _ _ h => h) (Or.inl ⟨by rfl, ?_⟩) (by assumption) ?_
    rotate_left
    · (intro w9 hSw; (try dsimp only at hSw); go_simp; try with_reducible rfl)
    try simp only [Act.put, List.setIfInBounds_toArray, List.set_cons_zero, List.set_cons_succ]
    refine wpAnyH_take (i := 11) (oi := ⟨some 44, Op.load 30 (Operand.tmp 6), 30, _, _, some (9, false)⟩) (v := ?_) rfl (by kernel_rfl) (by kernel_rfl) (by kernel_rfl) (fun _ _ _ h => h) (Or.inl ⟨by rfl, ?_⟩) (by assumption) ?_
    rotate_left
    · (intro w9 hSw; (try dsimp only at hSw); go_simp; try with_reducible rfl)
    try simp only [Act.put, List.setIfInBounds_toArray, List.set_cons_zero, List.set_cons_succ]
    refine wpAnyH_ready (rs := [12]) (by kernel_rfl) (by simp) ?_
    refine AllReadyH.cons (i := 12) (o := ⟨some 45, Op.call { callee := Callee.value (Operand.func 11), args := #[Operand.tmp 43, Operand.tmp 44], argTypes := #[27, 30] }, 4, _, _, some (9, false)⟩) rfl (fun K hK => ?_) AllReadyH.nil
    go_simp
    refine ((unhide KA) _ (S18.bel hHeld)).mono ?_
    rintro e u9 ⟨rfl, kb⟩
    have hq := S18.of (unhide HBX).1 (unhide HBX).2.1 (unhide HBX).2.2.1 (unhide HBT).1 (unhide HBT).2.1 (unhide HBT).2.2.1 (futH (S18.bel hHeld) kb)
    clear kb hHeld
    refine hK.out _ _ hq (fun hHeld => ?_)
    clear hK K hq
    try simp only [Act.put, List.setIfInBounds_toArray, List.set_cons_zero, List.set_cons_succ]
    refine wpAnyH_take (i := 13) (oi := ⟨some 46, Op.unOp UnOp.not 4 (Operand.tmp 45), 4, _, _, some (9, false)⟩) (v := ?_) rfl (by kernel_rfl) (by kernel_rfl) (by kernel_rfl) (fun _ _ _ h => h) (Or.inl ⟨by rfl, ?_⟩) (by assumption) ?_
    rotate_left
    · (intro w9 hSw; (try dsimp only at hSw); go_simp; try with_reducible rfl)
    try simp only [Act.put, List.setIfInBounds_toArray, List.set_cons_zero, List.set_cons_succ]
    refine wpAnyH_take (i := 14) (oi := ⟨some 47, Op.pick (Operand.tmp 42) (Operand.const (Value.bool true)) (Operand.tmp 46), 4, _, _, none⟩) (v := ?_) rfl (by kernel_rfl) (by kernel_rfl) (by kernel_rfl) (fun _ _ _ h => h) (Or.inl ⟨by rfl, ?_⟩) (by assumption) ?_
    rotate_left
    · (intro w9 hSw; (try dsimp only at hSw); go_simp; try with_reducible rfl)
    try simp only [Act.put, List.setIfInBounds_toArray, List.set_cons_zero, List.set_cons_succ]
    refine wpAnyH_take (i := 15) (oi := ⟨some 48, Op.move (Operand.tmp 47), 4, _, _, none⟩) (v := ?_) rfl (by kernel_rfl) (by kernel_rfl) (by kernel_rfl) (fun _ _ _ h => h) (Or.inl ⟨by rfl, ?_⟩) (by assumption) ?_
    rotate_left
    · (intro w9 hSw; (try dsimp only at hSw); go_simp; try with_reducible rfl)
    try simp only [Act.put, List.setIfInBounds_toArray, List.set_cons_zero, List.set_cons_succ]
    refine wpAnyH_take (i := 16) (oi := ⟨some 49, Op.load 27 (Operand.tmp 5), 27, _, _, some (15, false)⟩) (v := ?_) rfl (by kernel_rfl) (by kernel_rfl) (by kernel_rfl) (fun _ _ _ h => h) (Or.inl ⟨by rfl, ?_⟩) (by assumption) ?_
    rotate_left
    · (intro w9 hSw; (try dsimp only at hSw); go_simp; try with_reducible rfl)
    try simp only [Act.put, List.setIfInBounds_toArray, List.set_cons_zero, List.set_cons_succ]
    refine wpAnyH_take (i := 17) (oi := ⟨some 50, Op.load 30 (Operand.tmp 7), 30, _, _, some (15, false)⟩) (v := ?_) rfl (by kernel_rfl) (by kernel_rfl) (by kernel_rfl) (fun _ _ _ h => h) (Or.inl ⟨by rfl, ?_⟩) (by assumption) ?_
    rotate_left
    · (intro w9 hSw; (try dsimp only at hSw); go_simp; try with_reducible rfl)
    try simp only [Act.put, List.setIfInBounds_toArray, List.set_cons_zero, List.set_cons_succ]
    refine wpAnyH_ready (rs := [18]) (by kernel_rfl) (by simp) ?_
    refine AllReadyH.cons (i := 18) (o := ⟨some 51, Op.call { callee := Callee.value (Operand.func 11), args := #[Operand.tmp 49, Operand.tmp 50], argTypes := #[27, 30] }, 4, _, _, some (15, false)⟩) rfl (fun K hK => ?_) AllReadyH.nil
    go_simp
    refine ((unhide KB) _ (S18.bel hHeld)).mono ?_
    rintro e u9 ⟨rfl, kb⟩
    have hq := S18.of (unhide HBX).1 (unhide HBX).2.1 (unhide HBX).2.2.1 (unhide HBT).1 (unhide HBT).2.1 (unhide HBT).2.2.1 (futH (S18.bel hHeld) kb)
    clear kb hHeld
    refine hK.out _ _ hq (fun hHeld => ?_)
    clear hK K hq
    try simp only [Act.put, List.setIfInBounds_toArray, List.set_cons_zero, List.set_cons_succ]
    refine wpAnyH_take (i := 19) (oi := ⟨some 52, Op.unOp UnOp.not 4 (Operand.tmp 51), 4, _, _, some (15, false)⟩) (v := ?_) rfl (by kernel_rfl) (by kernel_rfl) (by kernel_rfl) (fun _ _ _ h => h) (Or.inl ⟨by rfl, ?_⟩) (by assumption) ?_
    rotate_left
    · (intro w9 hSw; (try dsimp only at hSw); go_simp; try with_reducible rfl)
    try simp only [Act.put, List.setIfInBounds_toArray, List.set_cons_zero, List.set_cons_succ]
    refine wpAnyH_take (i := 20) (oi := ⟨some 53, Op.pick (Operand.tmp 48) (Operand.const (Value.bool true)) (Operand.tmp 52), 4, _, _, none⟩) (v := ?_) rfl (by kernel_rfl) (by kernel_rfl) (by kernel_rfl) (fun _ _ _ h => h) (Or.inl ⟨by rfl, ?_⟩) (by assumption) ?_
    rotate_left
    · (intro w9 hSw; (try dsimp only at hSw); go_simp; try with_reducible rfl)
    try simp only [Act.put, List.setIfInBounds_toArray, List.set_cons_zero, List.set_cons_succ]
    refine wpAnyH_take (i := 21) (oi := ⟨some 54, Op.move (Operand.tmp 53), 4, _, _, none⟩) (v := ?_) rfl (by kernel_rfl) (by kernel_rfl) (by kernel_rfl) (fun _ _ _ h => h) (Or.inl ⟨by rfl, ?_⟩) (by assumption) ?_
    rotate_left
    · (intro w9 hSw; (try dsimp only at hSw); go_simp; try with_reducible rfl)
    try simp only [Act.put, List.setIfInBounds_toArray, List.set_cons_zero, List.set_cons_succ]
    refine wpAnyH_take (i := 22) (oi := ⟨some 55, Op.fieldAddr 30 (Operand.tmp 6) 0, 0, _, _, some (21, false)⟩) (v := ?_) rfl (by kernel_rfl) (by kernel_rfl) (by kernel_rfl) (fun _ _ _ h => h) (Or.inl ⟨by rfl, ?_⟩) (by assumption) ?_
    rotate_left
    · (intro w9 hSw; (try dsimp only at hSw); go_simp; try with_reducible rfl)
    try simp only [Act.put, List.setIfInBounds_toArray, List.set_cons_zero, List.set_cons_succ]
    refine wpAnyH_take (i := 23) (oi := ⟨some 56, Op.load 4 (Operand.tmp 55), 4, _, _, some (21, false)⟩) (v := ?_) rfl (by kernel_rfl) (by kernel_rfl) (by kernel_rfl) (fun _ _ _ h => h) (Or.inl ⟨by rfl, ?_⟩) (by assumption) ?_
    rotate_left
    · (intro w9 hSw; (try dsimp only at hSw); go_simp; try with_reducible rfl)
    try simp only [Act.put, List.setIfInBounds_toArray, List.set_cons_zero, List.set_cons_succ]
    refine wpAnyH_take (i := 24) (oi := ⟨some 57, Op.unOp UnOp.not 4 (Operand.tmp 56), 4, _, _, some (21, false)⟩) (v := ?_) rfl (by kernel_rfl) (by kernel_rfl) (by kernel_rfl) (fun _ _ _ h => h) (Or.inl ⟨by rfl, ?_⟩) (by assumption) ?_
    rotate_left
    · (intro w9 hSw; (try dsimp only at hSw); go_simp; try with_reducible rfl)
    try simp only [Act.put, List.setIfInBounds_toArray, List.set_cons_zero, List.set_cons_succ]
    refine wpAnyH_take (i := 25) (oi := ⟨some 58, Op.pick (Operand.tmp 54) (Operand.const (Value.bool true)) (Operand.tmp 57), 4, _, _, none⟩) (v := ?_) rfl (by kernel_rfl) (by kernel_rfl) (by kernel_rfl) (fun _ _ _ h => h) (Or.inl ⟨by rfl, ?_⟩) (by assumption) ?_
    rotate_left
    · (intro w9 hSw; (try dsimp only at hSw); go_simp; try with_reducible rfl)
    try simp only [Act.put, List.setIfInBounds_toArray, List.set_cons_zero, List.set_cons_succ]
    refine wpAnyH_done (by kernel_rfl) ?_ _
    have HK := hide (S18.bel hHeld)
    clear hHeld
    generalize u9 = ur at HK ⊢
    go_upto_region 6 with fail
    refine wp_region_held_drew (S := (S18 ur u1.heap.size u3.heap.size (u3.heap.size + 1) (u3.heap.size + 2) (.slice a1 vs.length c1) (.slice a2 fs.length c2) (.slice a3 rs.length c3) (.bool false) (.slice oa xs.length ca) (.slice ob ys.length cb) (.bool lj) (.slice oc xs2.length cc) (.slice od ys2.length cd) (.slice f1 vt.length g1) (.slice f2 ft.length g2) (.slice f3 rt.length g3) (.bool lt) (.slice p1 xt.length h1) (.slice p2 yt.length h2) (.slice q1 it.length k1) (.slice q2 bt.length k2) (.slice q3 jt.length k3))) (by kernel_rfl) (S18.of ((unhide HBX).1.call (unhide HK)) ((unhide HBX).2.1.call (unhide HK)) ((unhide HBX).2.2.1.call (unhide HK)) ((unhide HBT).1.call (unhide HK)) ((unhide HBT).2.1.call (unhide HK)) ((unhide HBT).2.2.1.call (unhide HK)) (Below.refl ur.heap.size ur).drew) (fun hHeld => ?_)
    refine wpAnyH_take (i := 0) (oi := ⟨some 59, Op.load 27 (Operand.tmp 8), 27, _, _, none⟩) (v := ?_) rfl (by kernel_rfl) (by kernel_rfl) (by kernel_rfl) (fun _ _ _ h => h) (Or.inl ⟨by rfl, ?_⟩) (by assumption) ?_
    rotate_left
    · (intro w9 hSw; (try dsimp only at hSw); go_simp; try with_reducible rfl)
    try simp only [Act.put, List.setIfInBounds_toArray, List.set_cons_zero, List.set_cons_succ]
    refine wpAnyH_take (i := 1) (oi := ⟨some 60, Op.load 30 (Operand.tmp 9), 30, _, _, none⟩) (v := ?_) rfl (by kernel_rfl) (by kernel_rfl) (by kernel_rfl) (fun _ _ _ h => h) (Or.inl ⟨by rfl, ?_⟩) (by assumption) ?_
    rotate_left
    · (intro w9 hSw; (try dsimp only at hSw); go_simp; try with_reducible rfl)
    try simp only [Act.put, List.setIfInBounds_toArray, List.set_cons_zero, List.set_cons_succ]
    refine wpAnyH_take (i := 2) (oi := ⟨some 61, Op.load 37 (Operand.tmp 10), 37, _, _, none⟩) (v := ?_) rfl (by kernel_rfl) (by kernel_rfl) (by kernel_rfl) (fun _ _ _ h => h) (Or.inl ⟨by rfl, ?_⟩) (by assumption) ?_
    rotate_left
    · (intro w9 hSw; (try dsimp only at hSw); go_simp; try with_reducible rfl)
    try simp only [Act.put, List.setIfInBounds_toArray, List.set_cons_zero, List.set_cons_succ]
    refine wpAnyH_take (i := 4) (oi := ⟨some 63, Op.load 27 (Operand.tmp 8), 27, _, _, none⟩) (v := ?_) rfl (by kernel_rfl) (by kernel_rfl) (by kernel_rfl) (fun _ _ _ h => h) (Or.inl ⟨by rfl, ?_⟩) (by assumption) ?_
    rotate_left
    · (intro w9 hSw; (try dsimp only at hSw); go_simp; try with_reducible rfl)
    try simp only [Act.put, List.setIfInBounds_toArray, List.set_cons_zero, List.set_cons_succ]
    refine wpAnyH_take (i := 5) (oi := ⟨some 64, Op.load 30 (Operand.tmp 9), 30, _, _, none⟩) (v := ?_) rfl (by kernel_rfl) (by kernel_rfl) (by kernel_rfl) (fun _ _ _ h => h) (Or.inl ⟨by rfl, ?_⟩) (by assumption) ?_
    rotate_left
    · (intro w9 hSw; (try dsimp only at hSw); go_simp; try with_reducible rfl)
    try simp only [Act.put, List.setIfInBounds_toArray, List.set_cons_zero, List.set_cons_succ]
    refine wpAnyH_take (i := 6) (oi := ⟨some 65, Op.load 37 (Operand.tmp 10), 37, _, _, none⟩) (v := ?_) rfl (by kernel_rfl) (by kernel_rfl) (by kernel_rfl) (fun _ _ _ h => h) (Or.inl ⟨by rfl, ?_⟩) (by assumption) ?_
    rotate_left
    · (intro w9 hSw; (try dsimp only at hSw); go_simp; try with_reducible rfl)
    try simp only [Act.put, List.setIfInBounds_toArray, List.set_cons_zero, List.set_cons_succ]
    refine wpAnyH_ready (rs := [3]) (by kernel_rfl) (by simp) ?_
    refine AllReadyH.cons (i := 3) (o := ⟨some 62, Op.call { callee := Callee.value (Operand.func 9), args := #[Operand.tmp 59, Operand.tmp 60, Operand.tmp 61], argTypes := #[27, 30, 37] }, 4, _, _, none⟩) rfl (fun K hK => ?_) AllReadyH.nil
    go_simp
    refine ((unhide KH) _ (futH (unhide HK) (S18.bel hHeld))).mono ?_
    rintro e u9 ⟨rfl, kb⟩
    have hq := S18.of ((unhide HBX).1.call (unhide HK)) ((unhide HBX).2.1.call (unhide HK)) ((unhide HBX).2.2.1.call (unhide HK)) ((unhide HBT).1.call (unhide HK)) ((unhide HBT).2.1.call (unhide HK)) ((unhide HBT).2.2.1.call (unhide HK)) (futH (S18.bel hHeld) kb)
    clear kb hHeld
    refine hK.out _ _ hq (fun hHeld => ?_)
    clear hK K hq
    try simp only [Act.put, List.setIfInBounds_toArray, List.set_cons_zero, List.set_cons_succ]
    refine wpAnyH_ready (rs := [7]) (by kernel_rfl) (by simp) ?_
    refine AllReadyH.cons (i := 7) (o := ⟨some 66, Op.call { callee := Callee.value (Operand.func 10), args := #[Operand.tmp 63, Operand.tmp 64, Operand.tmp 65], argTypes := #[27, 30, 37] }, 4, _, _, none⟩) rfl (fun K hK => ?_) AllReadyH.nil
    go_simp
    refine ((unhide KHS) _ (futH (unhide HK) (S18.bel hHeld))).mono ?_
    rintro e u9 ⟨rfl, kb⟩
    have hq := S18.of ((unhide HBX).1.call (unhide HK)) ((unhide HBX).2.1.call (unhide HK)) ((unhide HBX).2.2.1.call (unhide HK)) ((unhide HBT).1.call (unhide HK)) ((unhide HBT).2.1.call (unhide HK)) ((unhide HBT).2.2.1.call (unhide HK)) (futH (S18.bel hHeld) kb)
    clear kb hHeld
    refine hK.out _ _ hq (fun hHeld => ?_)
    clear hK K hq
    try simp only [Act.put, List.setIfInBounds_toArray, List.set_cons_zero, List.set_cons_succ]
    refine wpAnyH_take (i := 8) (oi := ⟨some 67, Op.binOp BinOp.eql 4 (Operand.tmp 62) (Operand.tmp 66) 4, 4, _, _, none⟩) (v := ?_) rfl (by kernel_rfl) (by kernel_rfl) (by kernel_rfl) (fun _ _ _ h => h) (Or.inl ⟨by rfl, ?_⟩) (by assumption) ?_
    rotate_left
    · (intro w9 hSw; (try dsimp only at hSw); go_simp; try with_reducible rfl)
    try simp only [Act.put, List.setIfInBounds_toArray, List.set_cons_zero, List.set_cons_succ]
    refine wpAnyH_take (i := 9) (oi := ⟨some 68, Op.move (Operand.tmp 67), 4, _, _, none⟩) (v := ?_) rfl (by kernel_rfl) (by kernel_rfl) (by kernel_rfl) (fun _ _ _ h => h) (Or.inl ⟨by rfl, ?_⟩) (by assumption) ?_
    rotate_left
    · (intro w9 hSw; (try dsimp only at hSw); go_simp; try with_reducible rfl)
    try simp only [Act.put, List.setIfInBounds_toArray, List.set_cons_zero, List.set_cons_succ]
    refine wpAnyH_take (i := 10) (oi := ⟨some 69, Op.load 27 (Operand.tmp 5), 27, _, _, some (9, true)⟩) (v := ?_) rfl (by kernel_rfl) (by kernel_rfl) (by kernel_rfl) (fun _ _ _ h => h) (Or.inl ⟨by rfl, ?_⟩) (by assumption) ?_
    rotate_left
    · (intro w9 hSw; (try dsimp only at hSw); go_simp; try with_reducible rfl)
    try simp only [Act.put, List.setIfInBounds_toArray, List.set_cons_zero, List.set_cons_succ]
    refine wpAnyH_take (i := 11) (oi := ⟨some 70, Op.load 30 (Operand.tmp 6), 30, _, _, some (9, true)⟩) (v := ?_) rfl (by kernel_rfl) (by kernel_rfl) (by kernel_rfl) (fun _ _ _ h => h) (Or.inl ⟨by rfl, ?_⟩) (by assumption) ?_
    rotate_left
    · (intro w9 hSw; (try dsimp only at hSw); go_simp; try with_reducible rfl)
    try simp only [Act.put, List.setIfInBounds_toArray, List.set_cons_zero, List.set_cons_succ]
    refine wpAnyH_take (i := 13) (oi := ⟨some 72, Op.load 27 (Operand.tmp 5), 27, _, _, some (9, true)⟩) (v := ?_) rfl (by kernel_rfl) (by kernel_rfl) (by kernel_rfl) (fun _ _ _ h => h) (Or.inl ⟨by rfl, ?_⟩) (by assumption) ?_
    rotate_left
    · (intro w9 hSw; (try dsimp only at hSw); go_simp; try with_reducible rfl)
    try simp only [Act.put, List.setIfInBounds_toArray, List.set_cons_zero, List.set_cons_succ]
    refine wpAnyH_take (i := 14) (oi := ⟨some 73, Op.load 30 (Operand.tmp 6), 30, _, _, some (9, true)⟩) (v := ?_) rfl (by kernel_rfl) (by kernel_rfl) (by kernel_rfl) (fun _ _ _ h => h) (Or.inl ⟨by rfl, ?_⟩) (by assumption) ?_
    rotate_left
    · (intro w9 hSw; (try dsimp only at hSw); go_simp; try with_reducible rfl)
    try simp only [Act.put, List.setIfInBounds_toArray, List.set_cons_zero, List.set_cons_succ]
    refine wpAnyH_ready (rs := [12]) (by kernel_rfl) (by simp) ?_
    refine AllReadyH.cons (i := 12) (o := ⟨some 71, Op.call { callee := Callee.value (Operand.func 12), args := #[Operand.tmp 69, Operand.tmp 70], argTypes := #[27, 30] }, 4, _, _, some (9, true)⟩) rfl (fun K hK => ?_) AllReadyH.nil
    go_simp
    refine ((unhide KI) _ (futH (unhide HK) (S18.bel hHeld))).mono ?_
    rintro e u9 ⟨rfl, kb⟩
    have hq := S18.of ((unhide HBX).1.call (unhide HK)) ((unhide HBX).2.1.call (unhide HK)) ((unhide HBX).2.2.1.call (unhide HK)) ((unhide HBT).1.call (unhide HK)) ((unhide HBT).2.1.call (unhide HK)) ((unhide HBT).2.2.1.call (unhide HK)) (futH (S18.bel hHeld) kb)
    clear kb hHeld
    refine hK.out _ _ hq (fun hHeld => ?_)
    clear hK K hq
    try simp only [Act.put, List.setIfInBounds_toArray, List.set_cons_zero, List.set_cons_succ]
    refine wpAnyH_ready (rs := [15]) (by kernel_rfl) (by simp) ?_
    refine AllReadyH.cons (i := 15) (o := ⟨some 74, Op.call { callee := Callee.value (Operand.func 11), args := #[Operand.tmp 72, Operand.tmp 73], argTypes := #[27, 30] }, 4, _, _, some (9, true)⟩) rfl (fun K hK => ?_) AllReadyH.nil
    go_simp
    refine ((unhide KA) _ (futH (unhide HK) (S18.bel hHeld))).mono ?_
    rintro e u9 ⟨rfl, kb⟩
    have hq := S18.of ((unhide HBX).1.call (unhide HK)) ((unhide HBX).2.1.call (unhide HK)) ((unhide HBX).2.2.1.call (unhide HK)) ((unhide HBT).1.call (unhide HK)) ((unhide HBT).2.1.call (unhide HK)) ((unhide HBT).2.2.1.call (unhide HK)) (futH (S18.bel hHeld) kb)
    clear kb hHeld
    refine hK.out _ _ hq (fun hHeld => ?_)
    clear hK K hq
    try simp only [Act.put, List.setIfInBounds_toArray, List.set_cons_zero, List.set_cons_succ]
    refine wpAnyH_take (i := 16) (oi := ⟨some 75, Op.binOp BinOp.eql 4 (Operand.tmp 71) (Operand.tmp 74) 4, 4, _, _, some (9, true)⟩) (v := ?_) rfl (by kernel_rfl) (by kernel_rfl) (by kernel_rfl) (fun _ _ _ h => h) (Or.inl ⟨by rfl, ?_⟩) (by assumption) ?_
    rotate_left
    · (intro w9 hSw; (try dsimp only at hSw); go_simp; try with_reducible rfl)
    try simp only [Act.put, List.setIfInBounds_toArray, List.set_cons_zero, List.set_cons_succ]
    refine wpAnyH_take (i := 17) (oi := ⟨some 76, Op.pick (Operand.tmp 68) (Operand.tmp 75) (Operand.const (Value.bool false)), 4, _, _, none⟩) (v := ?_) rfl (by kernel_rfl) (by kernel_rfl) (by kernel_rfl) (fun _ _ _ h => h) (Or.inl ⟨by rfl, ?_⟩) (by assumption) ?_
    rotate_left
    · (intro w9 hSw; (try dsimp only at hSw); go_simp; try with_reducible rfl)
    try simp only [Act.put, List.setIfInBounds_toArray, List.set_cons_zero, List.set_cons_succ]
    refine wpAnyH_take (i := 18) (oi := ⟨some 4, Op.assign (Operand.tmp 76), 4, _, _, none⟩) (v := ?_) rfl (by kernel_rfl) (by kernel_rfl) (by kernel_rfl) (fun _ _ _ h => h) (Or.inl ⟨by rfl, ?_⟩) (by assumption) ?_
    rotate_left
    · (intro w9 hSw; (try dsimp only at hSw); go_simp; try with_reducible rfl)
    try simp only [Act.put, List.setIfInBounds_toArray, List.set_cons_zero, List.set_cons_succ]
    refine wpAnyH_done (by kernel_rfl) ?_ _
    have HB := hide ((unhide HB).trans ((futH (unhide HK) (S18.bel hHeld)).mono (unhide HB).size))
    clear hHeld
    go_wp2
    go_ret
    exact ⟨by first | rfl | (simp; done), unhide HB⟩
  refine wp_region_held_drew (S := (S18 ub u1.heap.size u3.heap.size (u3.heap.size + 1) (u3.heap.size + 2) (.slice a1 vs.length c1) (.slice a2 fs.length c2) (.slice a3 rs.length c3) (.bool true) (.slice oa xs.length ca) (.slice ob ys.length cb) (.bool lj) (.slice oc xs2.length cc) (.slice od ys2.length cd) (.slice f1 vt.length g1) (.slice f2 ft.length g2) (.slice f3 rt.length g3) (.bool lt) (.slice p1 xt.length h1) (.slice p2 yt.length h2) (.slice q1 it.length k1) (.slice q2 bt.length k2) (.slice q3 jt.length k3))) (by kernel_rfl) (S18.of (unhide HBX).1 (unhide HBX).2.1 (unhide HBX).2.2.1 (unhide HBT).1 (unhide HBT).2.1 (unhide HBT).2.2.1 (Below.refl ub.heap.size ub).drew) (fun hHeld => ?_)
  refine wpAnyH_take (i := 0) (oi := ⟨some 33, Op.load 27 (Operand.tmp 8), 27, _, _, none⟩) (v := ?_) rfl (by kernel_rfl) (by kernel_rfl) (by kernel_rfl) (fun _ _ _ h => h) (Or.inl ⟨by rfl, ?_⟩) (by assumption) ?_
  rotate_left
  · (intro w9 hSw; (try dsimp only at hSw); go_simp; try with_reducible rfl)
  try simp only [Act.put, List.setIfInBounds_toArray, List.set_cons_zero, List.set_cons_succ]
  refine wpAnyH_take (i := 1) (oi := ⟨some 34, Op.load 30 (Operand.tmp 9), 30, _, _, none⟩) (v := ?_) rfl (by kernel_rfl) (by kernel_rfl) (by kernel_rfl) (fun _ _ _ h => h) (Or.inl ⟨by rfl, ?_⟩) (by assumption) ?_
  rotate_left
  · (intro w9 hSw; (try dsimp only at hSw); go_simp; try with_reducible rfl)
  try simp only [Act.put, List.setIfInBounds_toArray, List.set_cons_zero, List.set_cons_succ]
  refine wpAnyH_take (i := 2) (oi := ⟨some 35, Op.load 37 (Operand.tmp 10), 37, _, _, none⟩) (v := ?_) rfl (by kernel_rfl) (by kernel_rfl) (by kernel_rfl) (fun _ _ _ h => h) (Or.inl ⟨by rfl, ?_⟩) (by assumption) ?_
  rotate_left
  · (intro w9 hSw; (try dsimp only at hSw); go_simp; try with_reducible rfl)
  try simp only [Act.put, List.setIfInBounds_toArray, List.set_cons_zero, List.set_cons_succ]
  refine wpAnyH_take (i := 4) (oi := ⟨some 37, Op.load 27 (Operand.tmp 8), 27, _, _, none⟩) (v := ?_) rfl (by kernel_rfl) (by kernel_rfl) (by kernel_rfl) (fun _ _ _ h => h) (Or.inl ⟨by rfl, ?_⟩) (by assumption) ?_
  rotate_left
  · (intro w9 hSw; (try dsimp only at hSw); go_simp; try with_reducible rfl)
  try simp only [Act.put, List.setIfInBounds_toArray, List.set_cons_zero, List.set_cons_succ]
  refine wpAnyH_take (i := 5) (oi := ⟨some 38, Op.load 30 (Operand.tmp 9), 30, _, _, none⟩) (v := ?_) rfl (by kernel_rfl) (by kernel_rfl) (by kernel_rfl) (fun _ _ _ h => h) (Or.inl ⟨by rfl, ?_⟩) (by assumption) ?_
  rotate_left
  · (intro w9 hSw; (try dsimp only at hSw); go_simp; try with_reducible rfl)
  try simp only [Act.put, List.setIfInBounds_toArray, List.set_cons_zero, List.set_cons_succ]
  refine wpAnyH_take (i := 6) (oi := ⟨some 39, Op.load 37 (Operand.tmp 10), 37, _, _, none⟩) (v := ?_) rfl (by kernel_rfl) (by kernel_rfl) (by kernel_rfl) (fun _ _ _ h => h) (Or.inl ⟨by rfl, ?_⟩) (by assumption) ?_
  rotate_left
  · (intro w9 hSw; (try dsimp only at hSw); go_simp; try with_reducible rfl)
  try simp only [Act.put, List.setIfInBounds_toArray, List.set_cons_zero, List.set_cons_succ]
  refine wpAnyH_ready (rs := [3]) (by kernel_rfl) (by simp) ?_
  refine AllReadyH.cons (i := 3) (o := ⟨some 36, Op.call { callee := Callee.value (Operand.func 9), args := #[Operand.tmp 33, Operand.tmp 34, Operand.tmp 35], argTypes := #[27, 30, 37] }, 4, _, _, none⟩) rfl (fun K hK => ?_) AllReadyH.nil
  go_simp
  refine ((unhide KH) _ (S18.bel hHeld)).mono ?_
  rintro e u9 ⟨rfl, kb⟩
  have hq := S18.of (unhide HBX).1 (unhide HBX).2.1 (unhide HBX).2.2.1 (unhide HBT).1 (unhide HBT).2.1 (unhide HBT).2.2.1 (futH (S18.bel hHeld) kb)
  clear kb hHeld
  refine hK.out _ _ hq (fun hHeld => ?_)
  clear hK K hq
  try simp only [Act.put, List.setIfInBounds_toArray, List.set_cons_zero, List.set_cons_succ]
  refine wpAnyH_ready (rs := [7]) (by kernel_rfl) (by simp) ?_
  refine AllReadyH.cons (i := 7) (o := ⟨some 40, Op.call { callee := Callee.value (Operand.func 10), args := #[Operand.tmp 37, Operand.tmp 38, Operand.tmp 39], argTypes := #[27, 30, 37] }, 4, _, _, none⟩) rfl (fun K hK => ?_) AllReadyH.nil
  go_simp
  refine ((unhide KHS) _ (S18.bel hHeld)).mono ?_
  rintro e u9 ⟨rfl, kb⟩
  have hq := S18.of (unhide HBX).1 (unhide HBX).2.1 (unhide HBX).2.2.1 (unhide HBT).1 (unhide HBT).2.1 (unhide HBT).2.2.1 (futH (S18.bel hHeld) kb)
  clear kb hHeld
  refine hK.out _ _ hq (fun hHeld => ?_)
  clear hK K hq
  try simp only [Act.put, List.setIfInBounds_toArray, List.set_cons_zero, List.set_cons_succ]
  refine wpAnyH_take (i := 8) (oi := ⟨some 41, Op.binOp BinOp.neq 4 (Operand.tmp 36) (Operand.tmp 40) 4, 4, _, _, none⟩) (v := ?_) rfl (by kernel_rfl) (by kernel_rfl) (by kernel_rfl) (fun _ _ _ h => h) (Or.inl ⟨by rfl, ?_⟩) (by assumption) ?_
  rotate_left
  · (intro w9 hSw; (try dsimp only at hSw); go_simp; try with_reducible rfl)
  try simp only [Act.put, List.setIfInBounds_toArray, List.set_cons_zero, List.set_cons_succ]
  refine wpAnyH_take (i := 9) (oi := ⟨some 42, Op.move (Operand.tmp 41), 4, _, _, none⟩) (v := ?_) rfl (by kernel_rfl) (by kernel_rfl) (by kernel_rfl) (fun _ _ _ h => h) (Or.inl ⟨by rfl, ?_⟩) (by assumption) ?_
  rotate_left
  · (intro w9 hSw; (try dsimp only at hSw); go_simp; try with_reducible rfl)
  try simp only [Act.put, List.setIfInBounds_toArray, List.set_cons_zero, List.set_cons_succ]
  refine wpAnyH_take (i := 10) (oi := ⟨some 43, Op.load 27 (Operand.tmp 5), 27, _, _, some (9, false)⟩) (v := ?_) rfl (by kernel_rfl) (by kernel_rfl) (by kernel_rfl) (fun _ _ _ h => h) (Or.inl ⟨by rfl, ?_⟩) (by assumption) ?_
  rotate_left
  · (intro w9 hSw; (try dsimp only at hSw); go_simp; try with_reducible rfl)
  try simp only [Act.put, List.setIfInBounds_toArray, List.set_cons_zero, List.set_cons_succ]
  refine wpAnyH_take (i := 11) (oi := ⟨some 44, Op.load 30 (Operand.tmp 6), 30, _, _, some (9, false)⟩) (v := ?_) rfl (by kernel_rfl) (by kernel_rfl) (by kernel_rfl) (fun _ _ _ h => h) (Or.inl ⟨by rfl, ?_⟩) (by assumption) ?_
  rotate_left
  · (intro w9 hSw; (try dsimp only at hSw); go_simp; try with_reducible rfl)
  try simp only [Act.put, List.setIfInBounds_toArray, List.set_cons_zero, List.set_cons_succ]
  refine wpAnyH_ready (rs := [12]) (by kernel_rfl) (by simp) ?_
  refine AllReadyH.cons (i := 12) (o := ⟨some 45, Op.call { callee := Callee.value (Operand.func 11), args := #[Operand.tmp 43, Operand.tmp 44], argTypes := #[27, 30] }, 4, _, _, some (9, false)⟩) rfl (fun K hK => ?_) AllReadyH.nil
  go_simp
  refine ((unhide KA) _ (S18.bel hHeld)).mono ?_
  rintro e u9 ⟨rfl, kb⟩
  have hq := S18.of (unhide HBX).1 (unhide HBX).2.1 (unhide HBX).2.2.1 (unhide HBT).1 (unhide HBT).2.1 (unhide HBT).2.2.1 (futH (S18.bel hHeld) kb)
  clear kb hHeld
  refine hK.out _ _ hq (fun hHeld => ?_)
  clear hK K hq
  try simp only [Act.put, List.setIfInBounds_toArray, List.set_cons_zero, List.set_cons_succ]
  refine wpAnyH_take (i := 13) (oi := ⟨some 46, Op.unOp UnOp.not 4 (Operand.tmp 45), 4, _, _, some (9, false)⟩) (v := ?_) rfl (by kernel_rfl) (by kernel_rfl) (by kernel_rfl) (fun _ _ _ h => h) (Or.inl ⟨by rfl, ?_⟩) (by assumption) ?_
  rotate_left
  · (intro w9 hSw; (try dsimp only at hSw); go_simp; try with_reducible rfl)
  try simp only [Act.put, List.setIfInBounds_toArray, List.set_cons_zero, List.set_cons_succ]
  refine wpAnyH_take (i := 14) (oi := ⟨some 47, Op.pick (Operand.tmp 42) (Operand.const (Value.bool true)) (Operand.tmp 46), 4, _, _, none⟩) (v := ?_) rfl (by kernel_rfl) (by kernel_rfl) (by kernel_rfl) (fun _ _ _ h => h) (Or.inl ⟨by rfl, ?_⟩) (by assumption) ?_
  rotate_left
  · (intro w9 hSw; (try dsimp only at hSw); go_simp; try with_reducible rfl)
  try simp only [Act.put, List.setIfInBounds_toArray, List.set_cons_zero, List.set_cons_succ]
  refine wpAnyH_take (i := 15) (oi := ⟨some 48, Op.move (Operand.tmp 47), 4, _, _, none⟩) (v := ?_) rfl (by kernel_rfl) (by kernel_rfl) (by kernel_rfl) (fun _ _ _ h => h) (Or.inl ⟨by rfl, ?_⟩) (by assumption) ?_
  rotate_left
  · (intro w9 hSw; (try dsimp only at hSw); go_simp; try with_reducible rfl)
  try simp only [Act.put, List.setIfInBounds_toArray, List.set_cons_zero, List.set_cons_succ]
  refine wpAnyH_take (i := 16) (oi := ⟨some 49, Op.load 27 (Operand.tmp 5), 27, _, _, some (15, false)⟩) (v := ?_) rfl (by kernel_rfl) (by kernel_rfl) (by kernel_rfl) (fun _ _ _ h => h) (Or.inl ⟨by rfl, ?_⟩) (by assumption) ?_
  rotate_left
  · (intro w9 hSw; (try dsimp only at hSw); go_simp; try with_reducible rfl)
  try simp only [Act.put, List.setIfInBounds_toArray, List.set_cons_zero, List.set_cons_succ]
  refine wpAnyH_take (i := 17) (oi := ⟨some 50, Op.load 30 (Operand.tmp 7), 30, _, _, some (15, false)⟩) (v := ?_) rfl (by kernel_rfl) (by kernel_rfl) (by kernel_rfl) (fun _ _ _ h => h) (Or.inl ⟨by rfl, ?_⟩) (by assumption) ?_
  rotate_left
  · (intro w9 hSw; (try dsimp only at hSw); go_simp; try with_reducible rfl)
  try simp only [Act.put, List.setIfInBounds_toArray, List.set_cons_zero, List.set_cons_succ]
  refine wpAnyH_ready (rs := [18]) (by kernel_rfl) (by simp) ?_
  refine AllReadyH.cons (i := 18) (o := ⟨some 51, Op.call { callee := Callee.value (Operand.func 11), args := #[Operand.tmp 49, Operand.tmp 50], argTypes := #[27, 30] }, 4, _, _, some (15, false)⟩) rfl (fun K hK => ?_) AllReadyH.nil
  go_simp
  refine ((unhide KB) _ (S18.bel hHeld)).mono ?_
  rintro e u9 ⟨rfl, kb⟩
  have hq := S18.of (unhide HBX).1 (unhide HBX).2.1 (unhide HBX).2.2.1 (unhide HBT).1 (unhide HBT).2.1 (unhide HBT).2.2.1 (futH (S18.bel hHeld) kb)
  clear kb hHeld
  refine hK.out _ _ hq (fun hHeld => ?_)
  clear hK K hq
  try simp only [Act.put, List.setIfInBounds_toArray, List.set_cons_zero, List.set_cons_succ]
  refine wpAnyH_take (i := 19) (oi := ⟨some 52, Op.unOp UnOp.not 4 (Operand.tmp 51), 4, _, _, some (15, false)⟩) (v := ?_) rfl (by kernel_rfl) (by kernel_rfl) (by kernel_rfl) (fun _ _ _ h => h) (Or.inl ⟨by rfl, ?_⟩) (by assumption) ?_
  rotate_left
  · (intro w9 hSw; (try dsimp only at hSw); go_simp; try with_reducible rfl)
  try simp only [Act.put, List.setIfInBounds_toArray, List.set_cons_zero, List.set_cons_succ]
  refine wpAnyH_take (i := 20) (oi := ⟨some 53, Op.pick (Operand.tmp 48) (Operand.const (Value.bool true)) (Operand.tmp 52), 4, _, _, none⟩) (v := ?_) rfl (by kernel_rfl) (by kernel_rfl) (by kernel_rfl) (fun _ _ _ h => h) (Or.inl ⟨by rfl, ?_⟩) (by assumption) ?_
  rotate_left
  · (intro w9 hSw; (try dsimp only at hSw); go_simp; try with_reducible rfl)
  try simp only [Act.put, List.setIfInBounds_toArray, List.set_cons_zero, List.set_cons_succ]
  refine wpAnyH_take (i := 21) (oi := ⟨some 54, Op.move (Operand.tmp 53), 4, _, _, none⟩) (v := ?_) rfl (by kernel_rfl) (by kernel_rfl) (by kernel_rfl) (fun _ _ _ h => h) (Or.inl ⟨by rfl, ?_⟩) (by assumption) ?_
  rotate_left
  · (intro w9 hSw; (try dsimp only at hSw); go_simp; try with_reducible rfl)
  try simp only [Act.put, List.setIfInBounds_toArray, List.set_cons_zero, List.set_cons_succ]
  refine wpAnyH_take (i := 22) (oi := ⟨some 55, Op.fieldAddr 30 (Operand.tmp 6) 0, 0, _, _, some (21, false)⟩) (v := ?_) rfl (by kernel_rfl) (by kernel_rfl) (by kernel_rfl) (fun _ _ _ h => h) (Or.inl ⟨by rfl, ?_⟩) (by assumption) ?_
  rotate_left
  · (intro w9 hSw; (try dsimp only at hSw); go_simp; try with_reducible rfl)
  try simp only [Act.put, List.setIfInBounds_toArray, List.set_cons_zero, List.set_cons_succ]
  refine wpAnyH_take (i := 23) (oi := ⟨some 56, Op.load 4 (Operand.tmp 55), 4, _, _, some (21, false)⟩) (v := ?_) rfl (by kernel_rfl) (by kernel_rfl) (by kernel_rfl) (fun _ _ _ h => h) (Or.inl ⟨by rfl, ?_⟩) (by assumption) ?_
  rotate_left
  · (intro w9 hSw; (try dsimp only at hSw); go_simp; try with_reducible rfl)
  try simp only [Act.put, List.setIfInBounds_toArray, List.set_cons_zero, List.set_cons_succ]
  refine wpAnyH_take (i := 24) (oi := ⟨some 57, Op.unOp UnOp.not 4 (Operand.tmp 56), 4, _, _, some (21, false)⟩) (v := ?_) rfl (by kernel_rfl) (by kernel_rfl) (by kernel_rfl) (fun _ _ _ h => h) (Or.inl ⟨by rfl, ?_⟩) (by assumption) ?_
  rotate_left
  · (intro w9 hSw; (try dsimp only at hSw); go_simp; try with_reducible rfl)
  try simp only [Act.put, List.setIfInBounds_toArray, List.set_cons_zero, List.set_cons_succ]
  refine wpAnyH_take (i := 25) (oi := ⟨some 58, Op.pick (Operand.tmp 54) (Operand.const (Value.bool true)) (Operand.tmp 57), 4, _, _, none⟩) (v := ?_) rfl (by kernel_rfl) (by kernel_rfl) (by kernel_rfl) (fun _ _ _ h => h) (Or.inl ⟨by rfl, ?_⟩) (by assumption) ?_
  rotate_left
  · (intro w9 hSw; (try dsimp only at hSw); go_simp; try with_reducible rfl)
  try simp only [Act.put, List.setIfInBounds_toArray, List.set_cons_zero, List.set_cons_succ]
  refine wpAnyH_done (by kernel_rfl) ?_ _
  have HK := hide (S18.bel hHeld)
  clear hHeld
  generalize u9 = ur at HK ⊢
  go_upto_region 7 with fail
  have HBX := hide (show B3 u1 u1.heap.size (.slice a1 vs.length c1) (.slice a2 fs.length c2) (.slice a3 rs.length c3) (.bool true) (.slice oa xs.length ca) (.slice ob ys.length cb) (.bool lj) (.slice oc xs2.length cc) (.slice od ys2.length cd) ur from (unhide HBX).call (unhide HK))
  have HRW := hide ((unhide HRW).call (unhide HK))
  have HB := hide ((unhide HB).trans ((unhide HK).mono (unhide HB).size))
  clear HBT HRT KH KHS KA KI KB HK
  have q0 := (unhide HBX).1.1
  have q1 := (unhide HBX).1.2.1
  have q2 := (unhide HBX).1.2.2.1
  have q3 := (unhide HBX).2.1.1
  have q4 := (unhide HBX).2.1.2.1
  have q5 := (unhide HBX).2.1.2.2.1
  have q6 := (unhide HBX).2.2.1.1
  have q7 := (unhide HBX).2.2.1.2.1
  have q8 := (unhide HBX).2.2.1.2.2.1
  go_wp2_with fail
  refine (inside_c a1 a2 a3 c1 c2 c3 vs fs rs oa ob ca cb xs ys m0 len1 cap1 _ (unhide HRW).2.1 (unhide HRW).2.2.1 (unhide HRW).2.2.2.1 (unhide HZ) (unhide HRW).2.2.2.2.1 (unhide HRW).2.2.2.2.2.1 ((unhide CM).below (unhide HB)) (unhide HA) (unhide HIN)).mono ?_
  rintro e v1 ⟨ia, ib, ic, ja, jb, jc, B1, T, gs, is, bs, js, rfl, hsw, hF, h1, h2, kb⟩
  have HVA := hide (has_all2 (unhide HA) hF h1 h2)
  have hjl : js.length ≤ 1048576 := by rw [hF.2.2.1]; have q : declP vs fs rs := of_decide_eq_true (env_decl (unhide HA)); have := q.2.2.1; omega
  have HSI := hide (And.intro hsw.ints (hsw.mats hjl))
  clear hsw hF h1 h2 hjl
  have HBX := hide ((unhide HBX).call kb)
  have HRW := hide ((unhide HRW).call kb)
  have HB := hide ((unhide HB).trans (kb.mono (unhide HB).size))
  clear kb q0 q1 q2 q3 q4 q5 q6 q7 q8
  have HSB := hide (C3.new v1 (.slice ia is.length ja) (.slice ib bs.length jb) (.slice ic js.length jc) 37)
  have ka := (Below.refl _ v1).alloc (Nat.le_refl _) (Obj.cells #[.slice ia is.length ja, .slice ib bs.length jb, .slice ic js.length jc] 37)
  have HBX := hide ((unhide HBX).call ka)
  have HRW := hide ((unhide HRW).call ka)
  have HSI := hide (And.intro ((unhide HSI).1.call ka) ((unhide HSI).2.call ka))
  have HB := hide ((unhide HB).trans (ka.mono (unhide HB).size))
  go_upto_region 8 with fail
  generalize v1.alloc (Obj.cells #[.slice ia is.length ja, .slice ib bs.length jb, .slice ic js.length jc] 37) = uv at HBX HRW HSI HSB HB ⊢
  generalize v1.heap.size = gs_ at HSB ⊢
  clear ka
  obtain ⟨hb, hhb⟩ : ∃ r, hasD vs fs rs lj xs2 ys2 is bs js = r := ⟨_, rfl⟩
  obtain ⟨jl, jx, jy, ej⟩ : ∃ jl jx jy, joiL vs fs rs true xs ys lj xs2 ys2 = jl ∧ joiV vs fs rs true xs ys lj xs2 ys2 = (jx, jy) := ⟨_, _, _, rfl, rfl⟩
  obtain ⟨ml, mx, my, em⟩ : ∃ ml mx my, metL vs fs rs true xs ys lj xs2 ys2 = ml ∧ metV vs fs rs true xs ys lj xs2 ys2 = (mx, my) := ⟨_, _, _, rfl, rfl⟩
  have HLW := hide (has_law (unhide HA) (unhide HBB) (unhide HVA) ej em)
  have HJF := hide (show jx.length ≤ 5 ∧ jy.length ≤ 2 from by have q := env_few (ord_env (unhide HA) (unhide HBB)); rw [ej.2] at q; exact q)
  have HMF := hide (show mx.length ≤ 5 ∧ my.length ≤ 2 from by have q := env_few (ord_meet (unhide HA) (unhide HBB)).1; rw [em.2] at q; exact q)
  rw [hhb] at HLW
  have HHB := hide hhb
  have HEJ := hide ej
  have HEM := hide em
  clear hhb ej em
  have KHA : Hid (∀ w, Below uv.heap.size uv w → Calls Tryd.prog 9 #[.agg #[.slice a1 vs.length c1, .slice a2 fs.length c2, .slice a3 rs.length c3], .agg #[.bool true, .slice oa xs.length ca, .slice ob ys.length cb], .agg #[.slice ia is.length ja, .slice ib bs.length jb, .slice ic js.length jc]] w fun e w' => e = .returned (.bool (true)) ∧ Below w.heap.size w w') := fun w k => by
    have q := iEnvHas_c a1 a2 a3 c1 c2 c3 vs fs rs true oa ob ca cb xs ys ia ib ic ja jb jc is bs js w ((unhide HRW).1.call k) ((unhide HRW).2.1.call k) ((unhide HRW).2.2.1.call k) ((unhide HRW).2.2.2.1.call k) (unhide HZ) ((unhide HRW).2.2.2.2.1.call k) ((unhide HRW).2.2.2.2.2.1.call k) ((unhide HSI).1.call k) ((unhide HSI).2.call k)
    rw [unhide HVA] at q
    exact q
  have KHB : Hid (∀ w, Below uv.heap.size uv w → Calls Tryd.prog 9 #[.agg #[.slice a1 vs.length c1, .slice a2 fs.length c2, .slice a3 rs.length c3], .agg #[.bool lj, .slice oc xs2.length cc, .slice od ys2.length cd], .agg #[.slice ia is.length ja, .slice ib bs.length jb, .slice ic js.length jc]] w fun e w' => e = .returned (.bool (hb)) ∧ Below w.heap.size w w') := fun w k => by
    have q := iEnvHas_c a1 a2 a3 c1 c2 c3 vs fs rs lj oc od cc cd xs2 ys2 ia ib ic ja jb jc is bs js w ((unhide HRW).1.call k) ((unhide HRW).2.1.call k) ((unhide HRW).2.2.1.call k) ((unhide HRW).2.2.2.1.call k) (unhide HZ) ((unhide HRW).2.2.2.2.2.2.1.call k) ((unhide HRW).2.2.2.2.2.2.2.call k) ((unhide HSI).1.call k) ((unhide HSI).2.call k)
    rw [unhide HHB] at q
    exact q
  have KHJ : Hid (∀ w oj cj ok ck, Below uv.heap.size uv w → Ivs w oj jx ∧ Ivs w ok jy → Calls Tryd.prog 9 #[.agg #[.slice a1 vs.length c1, .slice a2 fs.length c2, .slice a3 rs.length c3], .agg #[.bool jl, .slice oj jx.length cj, .slice ok jy.length ck], .agg #[.slice ia is.length ja, .slice ib bs.length jb, .slice ic js.length jc]] w fun e w' => e = .returned (.bool (true)) ∧ Below w.heap.size w w') := fun w oj cj ok ck k hr => by
    have q := iEnvHas_c a1 a2 a3 c1 c2 c3 vs fs rs jl oj ok cj ck jx jy ia ib ic ja jb jc is bs js w ((unhide HRW).1.call k) ((unhide HRW).2.1.call k) ((unhide HRW).2.2.1.call k) ((unhide HRW).2.2.2.1.call k) (unhide HZ) hr.1 hr.2 ((unhide HSI).1.call k) ((unhide HSI).2.call k)
    rw [(unhide HLW).1] at q
    exact q
  have KHM : Hid (∀ w oj cj ok ck, Below uv.heap.size uv w → Ivs w oj mx ∧ Ivs w ok my → Calls Tryd.prog 9 #[.agg #[.slice a1 vs.length c1, .slice a2 fs.length c2, .slice a3 rs.length c3], .agg #[.bool ml, .slice oj mx.length cj, .slice ok my.length ck], .agg #[.slice ia is.length ja, .slice ib bs.length jb, .slice ic js.length jc]] w fun e w' => e = .returned (.bool (hb)) ∧ Below w.heap.size w w') := fun w oj cj ok ck k hr => by
    have q := iEnvHas_c a1 a2 a3 c1 c2 c3 vs fs rs ml oj ok cj ck mx my ia ib ic ja jb jc is bs js w ((unhide HRW).1.call k) ((unhide HRW).2.1.call k) ((unhide HRW).2.2.1.call k) ((unhide HRW).2.2.2.1.call k) (unhide HZ) hr.1 hr.2 ((unhide HSI).1.call k) ((unhide HSI).2.call k)
    rw [(unhide HLW).2] at q
    exact q
  have KJ : Hid (∀ w, Below uv.heap.size uv w → Calls Tryd.prog 14 #[.agg #[.slice a1 vs.length c1, .slice a2 fs.length c2, .slice a3 rs.length c3], .agg #[.bool true, .slice oa xs.length ca, .slice ob ys.length cb], .agg #[.bool lj, .slice oc xs2.length cc, .slice od ys2.length cd]] w (AnsH jl jx jy w)) := fun w k => by
    have q := iEnvJoin_c a1 a2 a3 c1 c2 c3 vs fs rs true oa ob ca cb xs ys lj oc od cc cd xs2 ys2 w ((unhide HRW).1.call k) ((unhide HRW).2.1.call k) ((unhide HRW).2.2.1.call k) ((unhide HRW).2.2.2.1.call k) (unhide HZ) ((unhide HRW).2.2.2.2.1.call k) ((unhide HRW).2.2.2.2.2.1.call k) ((unhide HRW).2.2.2.2.2.2.1.call k) ((unhide HRW).2.2.2.2.2.2.2.call k)
    rw [(unhide HEJ).1, (unhide HEJ).2] at q
    exact q
  have KJ2 : Hid (∀ w, Below uv.heap.size uv w → Calls Tryd.prog 14 #[.agg #[.slice a1 vs.length c1, .slice a2 fs.length c2, .slice a3 rs.length c3], .agg #[.bool lj, .slice oc xs2.length cc, .slice od ys2.length cd], .agg #[.bool true, .slice oa xs.length ca, .slice ob ys.length cb]] w (AnsH jl jx jy w)) := fun w k => by
    have q := iEnvJoin_c a1 a2 a3 c1 c2 c3 vs fs rs lj oc od cc cd xs2 ys2 true oa ob ca cb xs ys w ((unhide HRW).1.call k) ((unhide HRW).2.1.call k) ((unhide HRW).2.2.1.call k) ((unhide HRW).2.2.2.1.call k) (unhide HZ) ((unhide HRW).2.2.2.2.2.2.1.call k) ((unhide HRW).2.2.2.2.2.2.2.call k) ((unhide HRW).2.2.2.2.1.call k) ((unhide HRW).2.2.2.2.2.1.call k)
    rw [(ord_swap (unhide HA) (unhide HBB)).1, (ord_swap (unhide HA) (unhide HBB)).2, (unhide HEJ).1, (unhide HEJ).2] at q
    exact q
  have KM : Hid (∀ w, Below uv.heap.size uv w → Calls Tryd.prog 15 #[.agg #[.slice a1 vs.length c1, .slice a2 fs.length c2, .slice a3 rs.length c3], .agg #[.bool true, .slice oa xs.length ca, .slice ob ys.length cb], .agg #[.bool lj, .slice oc xs2.length cc, .slice od ys2.length cd]] w (AnsH ml mx my w)) := fun w k => by
    have q := iEnvMeet_c a1 a2 a3 c1 c2 c3 vs fs rs true oa ob ca cb xs ys lj oc od cc cd xs2 ys2 w ((unhide HRW).1.call k) ((unhide HRW).2.1.call k) ((unhide HRW).2.2.1.call k) ((unhide HRW).2.2.2.1.call k) (unhide HZ) ((unhide HRW).2.2.2.2.1.call k) ((unhide HRW).2.2.2.2.2.1.call k) ((unhide HRW).2.2.2.2.2.2.1.call k) ((unhide HRW).2.2.2.2.2.2.2.call k)
    rw [(unhide HEM).1, (unhide HEM).2] at q
    exact q
  have KSJ : Hid (∀ w, Below uv.heap.size uv w → Calls Tryd.prog 17 #[.agg #[.slice a1 vs.length c1, .slice a2 fs.length c2, .slice a3 rs.length c3], .agg #[.bool true, .slice oa xs.length ca, .slice ob ys.length cb], .agg #[.bool lj, .slice oc xs2.length cc, .slice od ys2.length cd]] w (AnsH jl jx jy w)) := fun w k => by
    have q := sEnvJoin_c a1 a2 a3 c1 c2 c3 vs fs rs true oa ob ca cb xs ys lj oc od cc cd xs2 ys2 w ((unhide HRW).2.1.call k) ((unhide HRW).2.2.1.call k) ((unhide HRW).2.2.2.1.call k) (unhide HZ) ((unhide HRW).2.2.2.2.1.call k) ((unhide HRW).2.2.2.2.2.1.call k) ((unhide HRW).2.2.2.2.2.2.1.call k) ((unhide HRW).2.2.2.2.2.2.2.call k)
    rw [(unhide HEJ).1, (unhide HEJ).2] at q
    exact q
  have HK := hide (Below.refl uv.heap.size uv)
  have KB3 := HBX
  have q0 := ((unhide HBX).1.call (unhide HK)).1
  have q1 := ((unhide HBX).1.call (unhide HK)).2.1
  have q2 := ((unhide HBX).1.call (unhide HK)).2.2.1
  have q3 := ((unhide HBX).2.1.call (unhide HK)).1
  have q4 := ((unhide HBX).2.1.call (unhide HK)).2.1
  have q5 := ((unhide HBX).2.1.call (unhide HK)).2.2.1
  have q6 := ((unhide HBX).2.2.1.call (unhide HK)).1
  have q7 := ((unhide HBX).2.2.1.call (unhide HK)).2.1
  have q8 := ((unhide HBX).2.2.1.call (unhide HK)).2.2.1
  have t0 := (unhide HSB).1
  have t1 := (unhide HSB).2.1
  have t2 := (unhide HSB).2.2.1
  go_wp2_with fail
  refine ((unhide KHB) _ (unhide HK)).mono ?_
  rintro e v2 ⟨rfl, kb⟩
  have HSB := hide ((unhide HSB).call kb)
  have HK := hide (futH (unhide HK) kb)
  clear kb q0 q1 q2 q3 q4 q5 q6 q7 q8 t0 t1 t2
  have q0 := ((unhide HBX).1.call (unhide HK)).1
  have q1 := ((unhide HBX).1.call (unhide HK)).2.1
  have q2 := ((unhide HBX).1.call (unhide HK)).2.2.1
  have q3 := ((unhide HBX).2.1.call (unhide HK)).1
  have q4 := ((unhide HBX).2.1.call (unhide HK)).2.1
  have q5 := ((unhide HBX).2.1.call (unhide HK)).2.2.1
  have q6 := ((unhide HBX).2.2.1.call (unhide HK)).1
  have q7 := ((unhide HBX).2.2.1.call (unhide HK)).2.1
  have q8 := ((unhide HBX).2.2.1.call (unhide HK)).2.2.1
  have t0 := (unhide HSB).1
  have t1 := (unhide HSB).2.1
  have t2 := (unhide HSB).2.2.1
  go_wp2_with fail
  refine ((unhide KJ) _ (unhide HK)).mono ?_
  rintro e v3 ⟨oj, cj, ok, ck, rfl, hre, kb⟩
  have HJI := hide (hre.ivs (by have := unhide HJF; omega))
  have HSB := hide ((unhide HSB).call kb)
  have HK := hide (futH (unhide HK) kb)
  clear hre kb q0 q1 q2 q3 q4 q5 q6 q7 q8 t0 t1 t2
  have HJB := hide (C3.new v3 (.bool jl) (.slice oj jx.length cj) (.slice ok jy.length ck) 30)
  have ka := (Below.refl _ v3).alloc (Nat.le_refl _) (Obj.cells #[.bool jl, .slice oj jx.length cj, .slice ok jy.length ck] 30)
  have HSB := hide ((unhide HSB).call ka)
  have HJI := hide (And.intro ((unhide HJI).1.call ka) ((unhide HJI).2.call ka))
  have HK := hide (futH (unhide HK) ka)
  clear ka
  go_upto_region 10 with fail
  generalize v3.alloc (Obj.cells #[.bool jl, .slice oj jx.length cj, .slice ok jy.length ck] 30) = v4 at HSB HJI HJB HK ⊢
  generalize v3.heap.size = g_hjb at HJB ⊢
  have q0 := ((unhide HBX).1.call (unhide HK)).1
  have q1 := ((unhide HBX).1.call (unhide HK)).2.1
  have q2 := ((unhide HBX).1.call (unhide HK)).2.2.1
  have q3 := ((unhide HBX).2.1.call (unhide HK)).1
  have q4 := ((unhide HBX).2.1.call (unhide HK)).2.1
  have q5 := ((unhide HBX).2.1.call (unhide HK)).2.2.1
  have q6 := ((unhide HBX).2.2.1.call (unhide HK)).1
  have q7 := ((unhide HBX).2.2.1.call (unhide HK)).2.1
  have q8 := ((unhide HBX).2.2.1.call (unhide HK)).2.2.1
  have t0 := (unhide HSB).1
  have t1 := (unhide HSB).2.1
  have t2 := (unhide HSB).2.2.1
  have t3 := (unhide HJB).1
  have t4 := (unhide HJB).2.1
  have t5 := (unhide HJB).2.2.1
  go_wp2_with fail
  refine ((unhide KM) _ (unhide HK)).mono ?_
  rintro e v5 ⟨om, cm, on, cn, rfl, hre, kb⟩
  have HMI := hide (hre.ivs (by have := unhide HMF; omega))
  have HSB := hide ((unhide HSB).call kb)
  have HJB := hide ((unhide HJB).call kb)
  have HJI := hide (And.intro ((unhide HJI).1.call kb) ((unhide HJI).2.call kb))
  have HK := hide (futH (unhide HK) kb)
  clear hre kb q0 q1 q2 q3 q4 q5 q6 q7 q8 t0 t1 t2 t3 t4 t5
  have HMB := hide (C3.new v5 (.bool ml) (.slice om mx.length cm) (.slice on my.length cn) 30)
  have ka := (Below.refl _ v5).alloc (Nat.le_refl _) (Obj.cells #[.bool ml, .slice om mx.length cm, .slice on my.length cn] 30)
  have HSB := hide ((unhide HSB).call ka)
  have HJB := hide ((unhide HJB).call ka)
  have HJI := hide (And.intro ((unhide HJI).1.call ka) ((unhide HJI).2.call ka))
  have HMI := hide (And.intro ((unhide HMI).1.call ka) ((unhide HMI).2.call ka))
  have HK := hide (futH (unhide HK) ka)
  clear ka
  go_upto_region 11 with fail
  generalize v5.alloc (Obj.cells #[.bool ml, .slice om mx.length cm, .slice on my.length cn] 30) = v6 at HSB HJB HJI HMI HMB HK ⊢
  generalize v5.heap.size = g_hmb at HMB ⊢
  refine wp_region_held_drew (S := (S18 v6 u1.heap.size gs_ g_hjb g_hmb (.slice a1 vs.length c1) (.slice a2 fs.length c2) (.slice a3 rs.length c3) (.bool true) (.slice oa xs.length ca) (.slice ob ys.length cb) (.bool lj) (.slice oc xs2.length cc) (.slice od ys2.length cd) (.slice ia is.length ja) (.slice ib bs.length jb) (.slice ic js.length jc) (.bool jl) (.slice oj jx.length cj) (.slice ok jy.length ck) (.bool ml) (.slice om mx.length cm) (.slice on my.length cn))) (by kernel_rfl) (S18.of ((unhide HBX).1.call (unhide HK)) ((unhide HBX).2.1.call (unhide HK)) ((unhide HBX).2.2.1.call (unhide HK)) (unhide HSB) (unhide HJB) (unhide HMB) (Below.refl v6.heap.size v6).drew) (fun hHeld => ?_)
  refine wpAnyH_take (i := 0) (oi := ⟨some 93, Op.load 27 (Operand.tmp 5), 27, _, _, none⟩) (v := ?_) rfl (by kernel_rfl) (by kernel_rfl) (by kernel_rfl) (fun _ _ _ h => h) (Or.inl ⟨by rfl, ?_⟩) (by assumption) ?_
  rotate_left
  · (intro w9 hSw; (try dsimp only at hSw); go_simp; try with_reducible rfl)
  try simp only [Act.put, List.setIfInBounds_toArray, List.set_cons_zero, List.set_cons_succ]
  refine wpAnyH_take (i := 1) (oi := ⟨some 94, Op.load 30 (Operand.tmp 6), 30, _, _, none⟩) (v := ?_) rfl (by kernel_rfl) (by kernel_rfl) (by kernel_rfl) (fun _ _ _ h => h) (Or.inl ⟨by rfl, ?_⟩) (by assumption) ?_
  rotate_left
  · (intro w9 hSw; (try dsimp only at hSw); go_simp; try with_reducible rfl)
  try simp only [Act.put, List.setIfInBounds_toArray, List.set_cons_zero, List.set_cons_succ]
  refine wpAnyH_take (i := 2) (oi := ⟨some 95, Op.load 37 (Operand.tmp 11), 37, _, _, none⟩) (v := ?_) rfl (by kernel_rfl) (by kernel_rfl) (by kernel_rfl) (fun _ _ _ h => h) (Or.inl ⟨by rfl, ?_⟩) (by assumption) ?_
  rotate_left
  · (intro w9 hSw; (try dsimp only at hSw); go_simp; try with_reducible rfl)
  try simp only [Act.put, List.setIfInBounds_toArray, List.set_cons_zero, List.set_cons_succ]
  refine wpAnyH_ready (rs := [3]) (by kernel_rfl) (by simp) ?_
  refine AllReadyH.cons (i := 3) (o := ⟨some 96, Op.call { callee := Callee.value (Operand.func 9), args := #[Operand.tmp 93, Operand.tmp 94, Operand.tmp 95], argTypes := #[27, 30, 37] }, 4, _, _, none⟩) rfl (fun K hK => ?_) AllReadyH.nil
  go_simp
  refine ((unhide KHA) _ (futH (unhide HK) (S18.bel hHeld))).mono ?_
  rintro e u9 ⟨rfl, kb⟩
  have hq := S18.of ((unhide HBX).1.call (unhide HK)) ((unhide HBX).2.1.call (unhide HK)) ((unhide HBX).2.2.1.call (unhide HK)) (unhide HSB) (unhide HJB) (unhide HMB) (futH (S18.bel hHeld) kb)
  clear kb hHeld
  refine hK.out _ _ hq (fun hHeld => ?_)
  clear hK K hq
  try simp only [Act.put, List.setIfInBounds_toArray, List.set_cons_zero, List.set_cons_succ]
  refine wpAnyH_take (i := 4) (oi := ⟨some 97, Op.move (Operand.tmp 96), 4, _, _, none⟩) (v := ?_) rfl (by kernel_rfl) (by kernel_rfl) (by kernel_rfl) (fun _ _ _ h => h) (Or.inl ⟨by rfl, ?_⟩) (by assumption) ?_
  rotate_left
  · (intro w9 hSw; (try dsimp only at hSw); go_simp; try with_reducible rfl)
  try simp only [Act.put, List.setIfInBounds_toArray, List.set_cons_zero, List.set_cons_succ]
  refine wpAnyH_take (i := 5) (oi := ⟨some 98, Op.load 27 (Operand.tmp 5), 27, _, _, some (4, true)⟩) (v := ?_) rfl (by kernel_rfl) (by kernel_rfl) (by kernel_rfl) (fun _ _ _ h => h) (Or.inl ⟨by rfl, ?_⟩) (by assumption) ?_
  rotate_left
  · (intro w9 hSw; (try dsimp only at hSw); go_simp; try with_reducible rfl)
  try simp only [Act.put, List.setIfInBounds_toArray, List.set_cons_zero, List.set_cons_succ]
  refine wpAnyH_take (i := 6) (oi := ⟨some 99, Op.load 30 (Operand.tmp 13), 30, _, _, some (4, true)⟩) (v := ?_) rfl (by kernel_rfl) (by kernel_rfl) (by kernel_rfl) (fun _ _ _ h => h) (Or.inl ⟨by rfl, ?_⟩) (by assumption) ?_
  rotate_left
  · (intro w9 hSw; (try dsimp only at hSw); go_simp; try with_reducible rfl)
  try simp only [Act.put, List.setIfInBounds_toArray, List.set_cons_zero, List.set_cons_succ]
  refine wpAnyH_take (i := 7) (oi := ⟨some 100, Op.load 37 (Operand.tmp 11), 37, _, _, some (4, true)⟩) (v := ?_) rfl (by kernel_rfl) (by kernel_rfl) (by kernel_rfl) (fun _ _ _ h => h) (Or.inl ⟨by rfl, ?_⟩) (by assumption) ?_
  rotate_left
  · (intro w9 hSw; (try dsimp only at hSw); go_simp; try with_reducible rfl)
  try simp only [Act.put, List.setIfInBounds_toArray, List.set_cons_zero, List.set_cons_succ]
  refine wpAnyH_ready (rs := [8]) (by kernel_rfl) (by simp) ?_
  refine AllReadyH.cons (i := 8) (o := ⟨some 101, Op.call { callee := Callee.value (Operand.func 9), args := #[Operand.tmp 98, Operand.tmp 99, Operand.tmp 100], argTypes := #[27, 30, 37] }, 4, _, _, some (4, true)⟩) rfl (fun K hK => ?_) AllReadyH.nil
  go_simp
  refine ((unhide KHJ) _ _ _ _ _ (futH (unhide HK) (S18.bel hHeld)) (And.intro ((unhide HJI).1.call (S18.bel hHeld)) ((unhide HJI).2.call (S18.bel hHeld)))).mono ?_
  rintro e u9 ⟨rfl, kb⟩
  have hq := S18.of ((unhide HBX).1.call (unhide HK)) ((unhide HBX).2.1.call (unhide HK)) ((unhide HBX).2.2.1.call (unhide HK)) (unhide HSB) (unhide HJB) (unhide HMB) (futH (S18.bel hHeld) kb)
  clear kb hHeld
  refine hK.out _ _ hq (fun hHeld => ?_)
  clear hK K hq
  try simp only [Act.put, List.setIfInBounds_toArray, List.set_cons_zero, List.set_cons_succ]
  refine wpAnyH_take (i := 9) (oi := ⟨some 102, Op.pick (Operand.tmp 97) (Operand.tmp 101) (Operand.const (Value.bool false)), 4, _, _, none⟩) (v := ?_) rfl (by kernel_rfl) (by kernel_rfl) (by kernel_rfl) (fun _ _ _ h => h) (Or.inl ⟨by rfl, ?_⟩) (by assumption) ?_
  rotate_left
  · (intro w9 hSw; (try dsimp only at hSw); go_simp; try with_reducible rfl)
  try simp only [Act.put, List.setIfInBounds_toArray, List.set_cons_zero, List.set_cons_succ]
  refine wpAnyH_take (i := 10) (oi := ⟨some 103, Op.move (Operand.tmp 102), 4, _, _, none⟩) (v := ?_) rfl (by kernel_rfl) (by kernel_rfl) (by kernel_rfl) (fun _ _ _ h => h) (Or.inl ⟨by rfl, ?_⟩) (by assumption) ?_
  rotate_left
  · (intro w9 hSw; (try dsimp only at hSw); go_simp; try with_reducible rfl)
  try simp only [Act.put, List.setIfInBounds_toArray, List.set_cons_zero, List.set_cons_succ]
  refine wpAnyH_take (i := 11) (oi := ⟨some 104, Op.load 27 (Operand.tmp 5), 27, _, _, some (10, true)⟩) (v := ?_) rfl (by kernel_rfl) (by kernel_rfl) (by kernel_rfl) (fun _ _ _ h => h) (Or.inl ⟨by rfl, ?_⟩) (by assumption) ?_
  rotate_left
  · (intro w9 hSw; (try dsimp only at hSw); go_simp; try with_reducible rfl)
  try simp only [Act.put, List.setIfInBounds_toArray, List.set_cons_zero, List.set_cons_succ]
  refine wpAnyH_take (i := 12) (oi := ⟨some 105, Op.load 27 (Operand.tmp 5), 27, _, _, some (10, true)⟩) (v := ?_) rfl (by kernel_rfl) (by kernel_rfl) (by kernel_rfl) (fun _ _ _ h => h) (Or.inl ⟨by rfl, ?_⟩) (by assumption) ?_
  rotate_left
  · (intro w9 hSw; (try dsimp only at hSw); go_simp; try with_reducible rfl)
  try simp only [Act.put, List.setIfInBounds_toArray, List.set_cons_zero, List.set_cons_succ]
  refine wpAnyH_take (i := 13) (oi := ⟨some 106, Op.load 30 (Operand.tmp 7), 30, _, _, some (10, true)⟩) (v := ?_) rfl (by kernel_rfl) (by kernel_rfl) (by kernel_rfl) (fun _ _ _ h => h) (Or.inl ⟨by rfl, ?_⟩) (by assumption) ?_
  rotate_left
  · (intro w9 hSw; (try dsimp only at hSw); go_simp; try with_reducible rfl)
  try simp only [Act.put, List.setIfInBounds_toArray, List.set_cons_zero, List.set_cons_succ]
  refine wpAnyH_take (i := 14) (oi := ⟨some 107, Op.load 30 (Operand.tmp 6), 30, _, _, some (10, true)⟩) (v := ?_) rfl (by kernel_rfl) (by kernel_rfl) (by kernel_rfl) (fun _ _ _ h => h) (Or.inl ⟨by rfl, ?_⟩) (by assumption) ?_
  rotate_left
  · (intro w9 hSw; (try dsimp only at hSw); go_simp; try with_reducible rfl)
  try simp only [Act.put, List.setIfInBounds_toArray, List.set_cons_zero, List.set_cons_succ]
  refine wpAnyH_take (i := 16) (oi := ⟨some 109, Op.load 37 (Operand.tmp 11), 37, _, _, some (10, true)⟩) (v := ?_) rfl (by kernel_rfl) (by kernel_rfl) (by kernel_rfl) (fun _ _ _ h => h) (Or.inl ⟨by rfl, ?_⟩) (by assumption) ?_
  rotate_left
  · (intro w9 hSw; (try dsimp only at hSw); go_simp; try with_reducible rfl)
  try simp only [Act.put, List.setIfInBounds_toArray, List.set_cons_zero, List.set_cons_succ]
  refine wpAnyH_ready (rs := [15]) (by kernel_rfl) (by simp) ?_
  refine AllReadyH.cons (i := 15) (o := ⟨some 108, Op.call { callee := Callee.value (Operand.func 14), args := #[Operand.tmp 105, Operand.tmp 106, Operand.tmp 107], argTypes := #[27, 30, 30] }, 30, _, _, some (10, true)⟩) rfl (fun K hK => ?_) AllReadyH.nil
  go_simp
  refine ((unhide KJ2) _ (futH (unhide HK) (S18.bel hHeld))).mono ?_
  rintro e u9 ⟨o1, n1, o2, n2, rfl, hre, kb⟩
  have HI := hide (hre.ivs (by have := unhide HJF; omega))
  clear hre
  have hq := S18.of ((unhide HBX).1.call (unhide HK)) ((unhide HBX).2.1.call (unhide HK)) ((unhide HBX).2.2.1.call (unhide HK)) (unhide HSB) (unhide HJB) (unhide HMB) (futH (S18.bel hHeld) kb)
  clear kb hHeld
  refine hK.out _ _ hq (fun hHeld => ?_)
  clear hK K hq
  try simp only [Act.put, List.setIfInBounds_toArray, List.set_cons_zero, List.set_cons_succ]
  refine wpAnyH_ready (rs := [17]) (by kernel_rfl) (by simp) ?_
  refine AllReadyH.cons (i := 17) (o := ⟨some 110, Op.call { callee := Callee.value (Operand.func 9), args := #[Operand.tmp 104, Operand.tmp 108, Operand.tmp 109], argTypes := #[27, 30, 37] }, 4, _, _, some (10, true)⟩) rfl (fun K hK => ?_) AllReadyH.nil
  go_simp
  refine ((unhide KHJ) _ _ _ _ _ (futH (unhide HK) (S18.bel hHeld)) (unhide HI)).mono ?_
  rintro e u9 ⟨rfl, kb⟩
  clear HI
  have hq := S18.of ((unhide HBX).1.call (unhide HK)) ((unhide HBX).2.1.call (unhide HK)) ((unhide HBX).2.2.1.call (unhide HK)) (unhide HSB) (unhide HJB) (unhide HMB) (futH (S18.bel hHeld) kb)
  clear kb hHeld
  refine hK.out _ _ hq (fun hHeld => ?_)
  clear hK K hq
  try simp only [Act.put, List.setIfInBounds_toArray, List.set_cons_zero, List.set_cons_succ]
  refine wpAnyH_take (i := 18) (oi := ⟨some 111, Op.pick (Operand.tmp 103) (Operand.tmp 110) (Operand.const (Value.bool false)), 4, _, _, none⟩) (v := ?_) rfl (by kernel_rfl) (by kernel_rfl) (by kernel_rfl) (fun _ _ _ h => h) (Or.inl ⟨by rfl, ?_⟩) (by assumption) ?_
  rotate_left
  · (intro w9 hSw; (try dsimp only at hSw); go_simp; try with_reducible rfl)
  try simp only [Act.put, List.setIfInBounds_toArray, List.set_cons_zero, List.set_cons_succ]
  refine wpAnyH_take (i := 19) (oi := ⟨some 112, Op.move (Operand.tmp 111), 4, _, _, none⟩) (v := ?_) rfl (by kernel_rfl) (by kernel_rfl) (by kernel_rfl) (fun _ _ _ h => h) (Or.inl ⟨by rfl, ?_⟩) (by assumption) ?_
  rotate_left
  · (intro w9 hSw; (try dsimp only at hSw); go_simp; try with_reducible rfl)
  try simp only [Act.put, List.setIfInBounds_toArray, List.set_cons_zero, List.set_cons_succ]
  refine wpAnyH_take (i := 20) (oi := ⟨some 113, Op.load 27 (Operand.tmp 5), 27, _, _, some (19, true)⟩) (v := ?_) rfl (by kernel_rfl) (by kernel_rfl) (by kernel_rfl) (fun _ _ _ h => h) (Or.inl ⟨by rfl, ?_⟩) (by assumption) ?_
  rotate_left
  · (intro w9 hSw; (try dsimp only at hSw); go_simp; try with_reducible rfl)
  try simp only [Act.put, List.setIfInBounds_toArray, List.set_cons_zero, List.set_cons_succ]
  refine wpAnyH_take (i := 21) (oi := ⟨some 114, Op.load 30 (Operand.tmp 14), 30, _, _, some (19, true)⟩) (v := ?_) rfl (by kernel_rfl) (by kernel_rfl) (by kernel_rfl) (fun _ _ _ h => h) (Or.inl ⟨by rfl, ?_⟩) (by assumption) ?_
  rotate_left
  · (intro w9 hSw; (try dsimp only at hSw); go_simp; try with_reducible rfl)
  try simp only [Act.put, List.setIfInBounds_toArray, List.set_cons_zero, List.set_cons_succ]
  refine wpAnyH_take (i := 22) (oi := ⟨some 115, Op.load 37 (Operand.tmp 11), 37, _, _, some (19, true)⟩) (v := ?_) rfl (by kernel_rfl) (by kernel_rfl) (by kernel_rfl) (fun _ _ _ h => h) (Or.inl ⟨by rfl, ?_⟩) (by assumption) ?_
  rotate_left
  · (intro w9 hSw; (try dsimp only at hSw); go_simp; try with_reducible rfl)
  try simp only [Act.put, List.setIfInBounds_toArray, List.set_cons_zero, List.set_cons_succ]
  refine wpAnyH_take (i := 24) (oi := ⟨some 117, Op.move (Operand.tmp 12), 4, _, _, some (19, true)⟩) (v := ?_) rfl (by kernel_rfl) (by kernel_rfl) (by kernel_rfl) (fun _ _ _ h => h) (Or.inl ⟨by rfl, ?_⟩) (by assumption) ?_
  rotate_left
  · (intro w9 hSw; (try dsimp only at hSw); go_simp; try with_reducible rfl)
  try simp only [Act.put, List.setIfInBounds_toArray, List.set_cons_zero, List.set_cons_succ]
  refine wpAnyH_ready (rs := [23]) (by kernel_rfl) (by simp) ?_
  refine AllReadyH.cons (i := 23) (o := ⟨some 116, Op.call { callee := Callee.value (Operand.func 9), args := #[Operand.tmp 113, Operand.tmp 114, Operand.tmp 115], argTypes := #[27, 30, 37] }, 4, _, _, some (19, true)⟩) rfl (fun K hK => ?_) AllReadyH.nil
  go_simp
  refine ((unhide KHM) _ _ _ _ _ (futH (unhide HK) (S18.bel hHeld)) (And.intro ((unhide HMI).1.call (S18.bel hHeld)) ((unhide HMI).2.call (S18.bel hHeld)))).mono ?_
  rintro e u9 ⟨rfl, kb⟩
  have hq := S18.of ((unhide HBX).1.call (unhide HK)) ((unhide HBX).2.1.call (unhide HK)) ((unhide HBX).2.2.1.call (unhide HK)) (unhide HSB) (unhide HJB) (unhide HMB) (futH (S18.bel hHeld) kb)
  clear kb hHeld
  refine hK.out _ _ hq (fun hHeld => ?_)
  clear hK K hq
  try simp only [Act.put, List.setIfInBounds_toArray, List.set_cons_zero, List.set_cons_succ]
  refine wpAnyH_take (i := 25) (oi := ⟨some 118, Op.binOp BinOp.eql 4 (Operand.tmp 116) (Operand.tmp 117) 4, 4, _, _, some (19, true)⟩) (v := ?_) rfl (by kernel_rfl) (by kernel_rfl) (by kernel_rfl) (fun _ _ _ h => h) (Or.inl ⟨by rfl, ?_⟩) (by assumption) ?_
  rotate_left
  · (intro w9 hSw; (try dsimp only at hSw); go_simp; try with_reducible rfl)
  try simp only [Act.put, List.setIfInBounds_toArray, List.set_cons_zero, List.set_cons_succ]
  refine wpAnyH_take (i := 26) (oi := ⟨some 119, Op.pick (Operand.tmp 112) (Operand.tmp 118) (Operand.const (Value.bool false)), 4, _, _, none⟩) (v := ?_) rfl (by kernel_rfl) (by kernel_rfl) (by kernel_rfl) (fun _ _ _ h => h) (Or.inl ⟨by rfl, ?_⟩) (by assumption) ?_
  rotate_left
  · (intro w9 hSw; (try dsimp only at hSw); go_simp; try with_reducible rfl)
  try simp only [Act.put, List.setIfInBounds_toArray, List.set_cons_zero, List.set_cons_succ]
  refine wpAnyH_take (i := 27) (oi := ⟨some 120, Op.move (Operand.tmp 119), 4, _, _, none⟩) (v := ?_) rfl (by kernel_rfl) (by kernel_rfl) (by kernel_rfl) (fun _ _ _ h => h) (Or.inl ⟨by rfl, ?_⟩) (by assumption) ?_
  rotate_left
  · (intro w9 hSw; (try dsimp only at hSw); go_simp; try with_reducible rfl)
  try simp only [Act.put, List.setIfInBounds_toArray, List.set_cons_zero, List.set_cons_succ]
  refine wpAnyH_take (i := 28) (oi := ⟨some 121, Op.load 30 (Operand.tmp 13), 30, _, _, some (27, true)⟩) (v := ?_) rfl (by kernel_rfl) (by kernel_rfl) (by kernel_rfl) (fun _ _ _ h => h) (Or.inl ⟨by rfl, ?_⟩) (by assumption) ?_
  rotate_left
  · (intro w9 hSw; (try dsimp only at hSw); go_simp; try with_reducible rfl)
  try simp only [Act.put, List.setIfInBounds_toArray, List.set_cons_zero, List.set_cons_succ]
  refine wpAnyH_take (i := 29) (oi := ⟨some 122, Op.load 27 (Operand.tmp 5), 27, _, _, some (27, true)⟩) (v := ?_) rfl (by kernel_rfl) (by kernel_rfl) (by kernel_rfl) (fun _ _ _ h => h) (Or.inl ⟨by rfl, ?_⟩) (by assumption) ?_
  rotate_left
  · (intro w9 hSw; (try dsimp only at hSw); go_simp; try with_reducible rfl)
  try simp only [Act.put, List.setIfInBounds_toArray, List.set_cons_zero, List.set_cons_succ]
  refine wpAnyH_take (i := 30) (oi := ⟨some 123, Op.load 30 (Operand.tmp 6), 30, _, _, some (27, true)⟩) (v := ?_) rfl (by kernel_rfl) (by kernel_rfl) (by kernel_rfl) (fun _ _ _ h => h) (Or.inl ⟨by rfl, ?_⟩) (by assumption) ?_
  rotate_left
  · (intro w9 hSw; (try dsimp only at hSw); go_simp; try with_reducible rfl)
  try simp only [Act.put, List.setIfInBounds_toArray, List.set_cons_zero, List.set_cons_succ]
  refine wpAnyH_take (i := 31) (oi := ⟨some 124, Op.load 30 (Operand.tmp 7), 30, _, _, some (27, true)⟩) (v := ?_) rfl (by kernel_rfl) (by kernel_rfl) (by kernel_rfl) (fun _ _ _ h => h) (Or.inl ⟨by rfl, ?_⟩) (by assumption) ?_
  rotate_left
  · (intro w9 hSw; (try dsimp only at hSw); go_simp; try with_reducible rfl)
  try simp only [Act.put, List.setIfInBounds_toArray, List.set_cons_zero, List.set_cons_succ]
  refine wpAnyH_ready (rs := [32]) (by kernel_rfl) (by simp) ?_
  refine AllReadyH.cons (i := 32) (o := ⟨some 125, Op.call { callee := Callee.value (Operand.func 17), args := #[Operand.tmp 122, Operand.tmp 123, Operand.tmp 124], argTypes := #[27, 30, 30] }, 30, _, _, some (27, true)⟩) rfl (fun K hK => ?_) AllReadyH.nil
  go_simp
  refine ((unhide KSJ) _ (futH (unhide HK) (S18.bel hHeld))).mono ?_
  rintro e u9 ⟨o1, n1, o2, n2, rfl, hre, kb⟩
  have HI := hide (hre.ivs (by have := unhide HJF; omega))
  clear hre
  have hq := S18.of ((unhide HBX).1.call (unhide HK)) ((unhide HBX).2.1.call (unhide HK)) ((unhide HBX).2.2.1.call (unhide HK)) (unhide HSB) (unhide HJB) (unhide HMB) (futH (S18.bel hHeld) kb)
  clear kb hHeld
  refine hK.out _ _ hq (fun hHeld => ?_)
  clear hK K hq
  try simp only [Act.put, List.setIfInBounds_toArray, List.set_cons_zero, List.set_cons_succ]
  refine wpAnyH_ready (rs := [33]) (by kernel_rfl) (by simp) ?_
  refine AllReadyH.cons (i := 33) (o := ⟨some 126, Op.call { callee := Callee.value (Operand.func 16), args := #[Operand.tmp 121, Operand.tmp 125], argTypes := #[30, 30] }, 4, _, _, some (27, true)⟩) rfl (fun K hK => ?_) AllReadyH.nil
  go_simp
  refine (same_again (And.intro ((unhide HJI).1.call (S18.bel hHeld)) ((unhide HJI).2.call (S18.bel hHeld))) (unhide HI)).mono ?_
  rintro e u9 ⟨rfl, kb⟩
  clear HI
  have hq := S18.of ((unhide HBX).1.call (unhide HK)) ((unhide HBX).2.1.call (unhide HK)) ((unhide HBX).2.2.1.call (unhide HK)) (unhide HSB) (unhide HJB) (unhide HMB) (futH (S18.bel hHeld) kb)
  clear kb hHeld
  refine hK.out _ _ hq (fun hHeld => ?_)
  clear hK K hq
  try simp only [Act.put, List.setIfInBounds_toArray, List.set_cons_zero, List.set_cons_succ]
  refine wpAnyH_take (i := 34) (oi := ⟨some 127, Op.pick (Operand.tmp 120) (Operand.tmp 126) (Operand.const (Value.bool false)), 4, _, _, none⟩) (v := ?_) rfl (by kernel_rfl) (by kernel_rfl) (by kernel_rfl) (fun _ _ _ h => h) (Or.inl ⟨by rfl, ?_⟩) (by assumption) ?_
  rotate_left
  · (intro w9 hSw; (try dsimp only at hSw); go_simp; try with_reducible rfl)
  try simp only [Act.put, List.setIfInBounds_toArray, List.set_cons_zero, List.set_cons_succ]
  refine wpAnyH_take (i := 35) (oi := ⟨some 4, Op.assign (Operand.tmp 127), 4, _, _, none⟩) (v := ?_) rfl (by kernel_rfl) (by kernel_rfl) (by kernel_rfl) (fun _ _ _ h => h) (Or.inl ⟨by rfl, ?_⟩) (by assumption) ?_
  rotate_left
  · (intro w9 hSw; (try dsimp only at hSw); go_simp; try with_reducible rfl)
  try simp only [Act.put, List.setIfInBounds_toArray, List.set_cons_zero, List.set_cons_succ]
  refine wpAnyH_done (by kernel_rfl) ?_ _
  have HB := hide ((unhide HB).trans ((futH (unhide HK) (S18.bel hHeld)).mono (unhide HB).size))
  clear hHeld
  go_wp2
  go_ret
  exact ⟨by first | rfl | (simp; done), unhide HB⟩
end Go.Proofs.YthpnbmdmkmkicaaDoor
