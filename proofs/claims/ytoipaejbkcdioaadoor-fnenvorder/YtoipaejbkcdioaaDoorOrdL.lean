/- The order of bounds: the walk of the law. -/
import Derived.Test.YtoipaejbkcdioaaDoorOrdM
import Derived.Test.YtoipaejbkcdioaaDoorDrwH
import Derived.Test.YtoipaejbkcdioaaDoorJoiE
import Derived.Test.YtoipaejbkcdioaaDoorMeeF
namespace Go.Proofs.YtoipaejbkcdioaaDoor
open Go.RowKit Go.Iv
set_option linter.unusedSimpArgs false
set_option linter.unusedVariables false

def IsRow (k : IntKind) (w : World) (a : Option Addr) (len cap : Nat) (zs : List Int) : Prop :=
  (a = none ∧ len = 0 ∧ cap = 0 ∧ zs = []) ∨
  ∃ x, a = some x ∧ len ≤ cap ∧ cap ≤ maxLen ∧ zs.length = cap ∧ (∀ i, i < zs.length → w.cell? (x.add i) = some (.int k (zs.getD i 0))) ∧ ∀ n ∈ zs, (Lit.int k n).wf = true
/-- The words, and the rows of a declaration and of two bounds. -/
def OrR (w : World) (a1 a2 a3 : Option Addr) (vs fs : List ByteArray) (rs : List (ByteArray × Int)) (oa ob : Option Addr) (xs ys : List (Int × Int)) (oc od : Option Addr) (xs2 ys2 : List (Int × Int)) : Prop :=
  KW w ∧ Strs w a1 vs ∧ Strs w a2 fs ∧ Arrs w a3 rs ∧ Ivs w oa xs ∧ Ivs w ob ys ∧ Ivs w oc xs2 ∧ Ivs w od ys2
theorem OrR.call {w w1 : World} {a1 a2 a3 : Option Addr} {vs fs : List ByteArray} {rs : List (ByteArray × Int)} {oa ob oc od : Option Addr} {xs ys xs2 ys2 : List (Int × Int)} (h : OrR w a1 a2 a3 vs fs rs oa ob xs ys oc od xs2 ys2) (k : Below w.heap.size w w1) : OrR w1 a1 a2 a3 vs fs rs oa ob xs ys oc od xs2 ys2 :=
  ⟨h.1.call k, h.2.1.call k, h.2.2.1.call k, h.2.2.2.1.call k, h.2.2.2.2.1.call k, h.2.2.2.2.2.1.call k, h.2.2.2.2.2.2.1.call k, h.2.2.2.2.2.2.2.call k⟩
theorem env_few {vs fs : List ByteArray} {rs : List (ByteArray × Int)} {li : Bool} {xs ys : List (Int × Int)} (h : envB vs fs rs li xs ys = true) : xs.length ≤ 5 ∧ ys.length ≤ 2 := by
  have k : declP vs fs rs := of_decide_eq_true (env_decl h)
  have k1 := k.1
  have k2 := k.2.2.1
  rcases env_fit h with ⟨_, h1, h2⟩ | ⟨_, h1, h2, _⟩ <;> omega
theorem same_again {u : World} {jl : Bool} {oj ok oj2 ok2 : Option Addr} {cj ck cj2 ck2 : Nat} {jx jy : List (Int × Int)} (h : Ivs u oj2 jx ∧ Ivs u ok2 jy) (h2 : Ivs u oj jx ∧ Ivs u ok jy) :
    Calls Tryd.prog 17 #[.agg #[.bool jl, .slice oj2 jx.length cj2, .slice ok2 jy.length ck2], .agg #[.bool jl, .slice oj jx.length cj, .slice ok jy.length ck]] u fun e w' => e = .returned (.bool true) ∧ Below u.heap.size u w' := by
  have q := sameEnv_c jl oj2 ok2 cj2 ck2 jx jy jl oj ok cj ck jx jy u h.1 h.2 h2.1 h2.2
  rw [sam_self] at q
  exact q
/-- Fifteen cells of five boxes. -/
@[reducible] def S15 (w0 : World) (b p q : Nat) (x0 x1 x2 y0 y1 y2 z0 z1 z2 s0 s1 s2 t0 t1 t2 : Value) (u : World) : Prop :=
  u.cell? ⟨b, 0, none⟩ = some x0 ∧ u.cell? ⟨b, 1, none⟩ = some x1 ∧ u.cell? ⟨b, 2, none⟩ = some x2 ∧ u.cell? ⟨b + 1, 0, none⟩ = some y0 ∧ u.cell? ⟨b + 1, 1, none⟩ = some y1 ∧ u.cell? ⟨b + 1, 2, none⟩ = some y2 ∧ u.cell? ⟨b + 2, 0, none⟩ = some z0 ∧ u.cell? ⟨b + 2, 1, none⟩ = some z1 ∧ u.cell? ⟨b + 2, 2, none⟩ = some z2 ∧
  u.cell? ⟨p, 0, none⟩ = some s0 ∧ u.cell? ⟨p, 1, none⟩ = some s1 ∧ u.cell? ⟨p, 2, none⟩ = some s2 ∧ u.cell? ⟨q, 0, none⟩ = some t0 ∧ u.cell? ⟨q, 1, none⟩ = some t1 ∧ u.cell? ⟨q, 2, none⟩ = some t2 ∧ Hid ((C3 u b x0 x1 x2 ∧ C3 u (b + 1) y0 y1 y2 ∧ C3 u (b + 2) z0 z1 z2) ∧ C3 u p s0 s1 s2 ∧ C3 u q t0 t1 t2 ∧ Below w0.heap.size w0 u)
theorem S15.of {w0 : World} {b p q : Nat} {x0 x1 x2 y0 y1 y2 z0 z1 z2 s0 s1 s2 t0 t1 t2 : Value} {u : World} (h : C3 u b x0 x1 x2) (h1 : C3 u (b + 1) y0 y1 y2) (h2 : C3 u (b + 2) z0 z1 z2) (h3 : C3 u p s0 s1 s2) (h4 : C3 u q t0 t1 t2) (k : Below w0.heap.size w0 u) : S15 w0 b p q x0 x1 x2 y0 y1 y2 z0 z1 z2 s0 s1 s2 t0 t1 t2 u :=
  ⟨h.1, h.2.1, h.2.2.1, h1.1, h1.2.1, h1.2.2.1, h2.1, h2.2.1, h2.2.2.1, h3.1, h3.2.1, h3.2.2.1, h4.1, h4.2.1, h4.2.2.1, hide ⟨⟨h, h1, h2⟩, h3, h4, k⟩⟩
theorem S15.out {w0 : World} {b p q : Nat} {x0 x1 x2 y0 y1 y2 z0 z1 z2 s0 s1 s2 t0 t1 t2 : Value} {u : World} (h : S15 w0 b p q x0 x1 x2 y0 y1 y2 z0 z1 z2 s0 s1 s2 t0 t1 t2 u) : (C3 u b x0 x1 x2 ∧ C3 u (b + 1) y0 y1 y2 ∧ C3 u (b + 2) z0 z1 z2) ∧ C3 u p s0 s1 s2 ∧ C3 u q t0 t1 t2 ∧ Below w0.heap.size w0 u := unhide h.2.2.2.2.2.2.2.2.2.2.2.2.2.2.2
theorem S15.call {w0 : World} {b p q : Nat} {x0 x1 x2 y0 y1 y2 z0 z1 z2 s0 s1 s2 t0 t1 t2 : Value} {u v : World} (h : S15 w0 b p q x0 x1 x2 y0 y1 y2 z0 z1 z2 s0 s1 s2 t0 t1 t2 u) (k : Below u.heap.size u v) : S15 w0 b p q x0 x1 x2 y0 y1 y2 z0 z1 z2 s0 s1 s2 t0 t1 t2 v :=
  S15.of (h.out.1.1.call k) (h.out.1.2.1.call k) (h.out.1.2.2.call k) (h.out.2.1.call k) (h.out.2.2.1.call k) (h.out.2.2.2.trans (k.mono h.out.2.2.2.size))
theorem S15.drew {w0 : World} {b p q : Nat} {x0 x1 x2 y0 y1 y2 z0 z1 z2 s0 s1 s2 t0 t1 t2 : Value} {u : World} (h : S15 w0 b p q x0 x1 x2 y0 y1 y2 z0 z1 z2 s0 s1 s2 t0 t1 t2 u) : S15 w0 b p q x0 x1 x2 y0 y1 y2 z0 z1 z2 s0 s1 s2 t0 t1 t2 u.drew := h.call (Below.refl _ _).drew
theorem S15.bel {w0 : World} {b p q : Nat} {x0 x1 x2 y0 y1 y2 z0 z1 z2 s0 s1 s2 t0 t1 t2 : Value} {u : World} (h : S15 w0 b p q x0 x1 x2 y0 y1 y2 z0 z1 z2 s0 s1 s2 t0 t1 t2 u) : Below w0.heap.size w0 u := h.out.2.2.2
set_option maxRecDepth 20000 in
set_option maxHeartbeats 32000000 in
theorem lawEnvOrder (a0 : Option Addr) (len0 cap0 : Nat) (z0 : List Int) (w : World) (hw : KW w) (w0 : IsRow .u8 w a0 len0 cap0 z0) :
    Calls Tryd.prog 4 #[.slice a0 len0 cap0] w fun e w' => e = .returned (.bool true) ∧ Below w.heap.size w w' := by
  have HW := hide hw
  clear hw
  by_cases hbig : 1048576 < len0
  · have hm := row_len w0
    clear w0
    go_enter Tryd.func4, Tryd.ntmps4
    go_wp2_with fail
    refine (big_yes _ _ _ hbig hm _).mono ?_
    rintro e w' ⟨rfl, rfl⟩
    go_wp2
    go_ret
    exact ⟨rfl, Below.refl _ _⟩
  have hs : len0 ≤ 1048576 := by omega
  have CD := hide (code_of_row w0 hs)
  clear w0 hbig
  go_enter Tryd.func4, Tryd.ntmps4
  go_wp2_with fail
  refine (big_c _ _ _ hs _).mono ?_
  rintro e w' ⟨rfl, rfl⟩
  go_wp2_with fail
  refine (DrawEnvLeq_c _ _ _ _ (unhide CD)).mono ?_
  rintro e u1 ⟨a1, a2, a3, c1, c2, c3, vs, fs, rs, li, oa, ca, ob, cb, xs, ys, lj, oc, cc, od, cd, xs2, ys2, rfl, s1, s2, s3, hz, ⟨i1, i2⟩, ⟨i3, i4⟩, kb⟩
  have HRW := hide (show OrR u1 a1 a2 a3 vs fs rs oa ob xs ys oc od xs2 ys2 from ⟨(unhide HW).call kb, s1, s2, s3, i1, i2, i3, i4⟩)
  have HZ := hide hz
  have HB := hide kb
  clear s1 s2 s3 hz i1 i2 i3 i4 kb
  have HBX := hide (B3.new u1 (.slice a1 vs.length c1) (.slice a2 fs.length c2) (.slice a3 rs.length c3) (.bool li) (.slice oa xs.length ca) (.slice ob ys.length cb) (.bool lj) (.slice oc xs2.length cc) (.slice od ys2.length cd) 27 30 30)
  have ka := (((Below.refl _ u1).alloc (Nat.le_refl _) (Obj.cells #[.slice a1 vs.length c1, .slice a2 fs.length c2, .slice a3 rs.length c3] 27)).alloc (by simp) (Obj.cells #[.bool li, .slice oa xs.length ca, .slice ob ys.length cb] 30)).alloc (by simp; omega) (Obj.cells #[.bool lj, .slice oc xs2.length cc, .slice od ys2.length cd] 30)
  have HRW := hide ((unhide HRW).call ka)
  have HB := hide ((unhide HB).trans (ka.mono (unhide HB).size))
  go_upto_region 4 with fail
  generalize ((u1.alloc (Obj.cells #[.slice a1 vs.length c1, .slice a2 fs.length c2, .slice a3 rs.length c3] 27)).alloc (Obj.cells #[.bool li, .slice oa xs.length ca, .slice ob ys.length cb] 30)).alloc (Obj.cells #[.bool lj, .slice oc xs2.length cc, .slice od ys2.length cd] 30) = u2 at HBX HRW HB ⊢
  clear ka
  have KI : Hid (∀ w, OrR w a1 a2 a3 vs fs rs oa ob xs ys oc od xs2 ys2 → Calls Tryd.prog 20 #[.agg #[.slice a1 vs.length c1, .slice a2 fs.length c2, .slice a3 rs.length c3], .agg #[.bool li, .slice oa xs.length ca, .slice ob ys.length cb], .agg #[.bool lj, .slice oc xs2.length cc, .slice od ys2.length cd]] w fun e w' => e = .returned (.bool (leqD vs fs rs li xs ys lj xs2 ys2)) ∧ Below w.heap.size w w') := fun w h => iEnvLeq_c a1 a2 a3 c1 c2 c3 vs fs rs li oa ob ca cb xs ys lj oc od cc cd xs2 ys2 w h.1 h.2.1 h.2.2.1 h.2.2.2.1 (unhide HZ) h.2.2.2.2.1 h.2.2.2.2.2.1 h.2.2.2.2.2.2.1 h.2.2.2.2.2.2.2
  have KS : Hid (∀ w, OrR w a1 a2 a3 vs fs rs oa ob xs ys oc od xs2 ys2 → Calls Tryd.prog 21 #[.agg #[.slice a1 vs.length c1, .slice a2 fs.length c2, .slice a3 rs.length c3], .agg #[.bool li, .slice oa xs.length ca, .slice ob ys.length cb], .agg #[.bool lj, .slice oc xs2.length cc, .slice od ys2.length cd]] w fun e w' => e = .returned (.bool (leqD vs fs rs li xs ys lj xs2 ys2)) ∧ Below w.heap.size w w') := fun w h => sEnvLeq_c a1 a2 a3 c1 c2 c3 vs fs rs li oa ob ca cb xs ys lj oc od cc cd xs2 ys2 w h.2.1 h.2.2.1 h.2.2.2.1 (unhide HZ) h.2.2.2.2.1 h.2.2.2.2.2.1 h.2.2.2.2.2.2.1 h.2.2.2.2.2.2.2
  have KA : Hid (∀ w, OrR w a1 a2 a3 vs fs rs oa ob xs ys oc od xs2 ys2 → Calls Tryd.prog 12 #[.agg #[.slice a1 vs.length c1, .slice a2 fs.length c2, .slice a3 rs.length c3], .agg #[.bool li, .slice oa xs.length ca, .slice ob ys.length cb]] w fun e w' => e = .returned (.bool (envB vs fs rs li xs ys)) ∧ Below w.heap.size w w') := fun w h => sEnvOk_c a1 a2 a3 c1 c2 c3 vs fs rs li oa ob ca cb xs ys w h.2.1 h.2.2.1 h.2.2.2.1 (unhide HZ) h.2.2.2.2.1 h.2.2.2.2.2.1
  have KB : Hid (∀ w, OrR w a1 a2 a3 vs fs rs oa ob xs ys oc od xs2 ys2 → Calls Tryd.prog 12 #[.agg #[.slice a1 vs.length c1, .slice a2 fs.length c2, .slice a3 rs.length c3], .agg #[.bool lj, .slice oc xs2.length cc, .slice od ys2.length cd]] w fun e w' => e = .returned (.bool (envB vs fs rs lj xs2 ys2)) ∧ Below w.heap.size w w') := fun w h => sEnvOk_c a1 a2 a3 c1 c2 c3 vs fs rs lj oc od cc cd xs2 ys2 w h.2.1 h.2.2.1 h.2.2.2.1 (unhide HZ) h.2.2.2.2.2.2.1 h.2.2.2.2.2.2.2
  have HJR := hide (fun (h1 : envB vs fs rs li xs ys = true) (h2 : envB vs fs rs lj xs2 ys2 = true) => ord_just h1 h2)
  obtain ⟨r, hr⟩ : ∃ r, leqD vs fs rs li xs ys lj xs2 ys2 = r := ⟨_, rfl⟩
  rw [hr] at KI KS HJR
  have HR := hide hr
  clear hr
  obtain ⟨A, hA⟩ : ∃ A, envB vs fs rs li xs ys = A := ⟨_, rfl⟩
  obtain ⟨B, hB⟩ : ∃ B, envB vs fs rs lj xs2 ys2 = B := ⟨_, rfl⟩
  rw [hA] at KA
  rw [hB] at KB
  have HA := hide hA
  have HBB := hide hB
  clear hA hB
  have q0 := (unhide HBX).1.1
  have q1 := (unhide HBX).1.2.1
  have q2 := (unhide HBX).1.2.2.1
  have q3 := (unhide HBX).2.1.1
  have q4 := (unhide HBX).2.1.2.1
  have q5 := (unhide HBX).2.1.2.2.1
  have q6 := (unhide HBX).2.2.1.1
  have q7 := (unhide HBX).2.2.1.2.1
  have q8 := (unhide HBX).2.2.1.2.2.1
  go_wp2_with fail
  refine ((unhide KI) _ (unhide HRW)).mono ?_
  rintro e u3 ⟨rfl, kb⟩
  have HBX := hide ((unhide HBX).call kb)
  have HRW := hide ((unhide HRW).call kb)
  have HB := hide ((unhide HB).trans (kb.mono (unhide HB).size))
  clear kb q0 q1 q2 q3 q4 q5 q6 q7 q8
  have q0 := (unhide HBX).1.1
  have q1 := (unhide HBX).1.2.1
  have q2 := (unhide HBX).1.2.2.1
  have q3 := (unhide HBX).2.1.1
  have q4 := (unhide HBX).2.1.2.1
  have q5 := (unhide HBX).2.1.2.2.1
  have q6 := (unhide HBX).2.2.1.1
  have q7 := (unhide HBX).2.2.1.2.1
  have q8 := (unhide HBX).2.2.1.2.2.1
  go_wp2_with fail
  refine ((unhide KS) _ (unhide HRW)).mono ?_
  rintro e u4 ⟨rfl, kb⟩
  have HBX := hide ((unhide HBX).call kb)
  have HRW := hide ((unhide HRW).call kb)
  have HB := hide ((unhide HB).trans (kb.mono (unhide HB).size))
  clear kb q0 q1 q2 q3 q4 q5 q6 q7 q8
  have q0 := (unhide HBX).1.1
  have q1 := (unhide HBX).1.2.1
  have q2 := (unhide HBX).1.2.2.1
  have q3 := (unhide HBX).2.1.1
  have q4 := (unhide HBX).2.1.2.1
  have q5 := (unhide HBX).2.1.2.2.1
  have q6 := (unhide HBX).2.2.1.1
  have q7 := (unhide HBX).2.2.1.2.1
  have q8 := (unhide HBX).2.2.1.2.2.1
  go_wp2_with fail
  refine ((unhide KA) _ (unhide HRW)).mono ?_
  rintro e u5 ⟨rfl, kb⟩
  have HBX := hide ((unhide HBX).call kb)
  have HRW := hide ((unhide HRW).call kb)
  have HB := hide ((unhide HB).trans (kb.mono (unhide HB).size))
  clear kb q0 q1 q2 q3 q4 q5 q6 q7 q8
  have q0 := (unhide HBX).1.1
  have q1 := (unhide HBX).1.2.1
  have q2 := (unhide HBX).1.2.2.1
  have q3 := (unhide HBX).2.1.1
  have q4 := (unhide HBX).2.1.2.1
  have q5 := (unhide HBX).2.1.2.2.1
  have q6 := (unhide HBX).2.2.1.1
  have q7 := (unhide HBX).2.2.1.2.1
  have q8 := (unhide HBX).2.2.1.2.2.1
  cases A
  · go_wp2_with fail
    refine ((unhide KS) _ (unhide HRW)).mono ?_
    rintro e u9 ⟨rfl, kb⟩
    have HB := hide ((unhide HB).trans (kb.mono (unhide HB).size))
    clear kb q0 q1 q2 q3 q4 q5 q6 q7 q8
    go_wp2
    go_ret
    exact ⟨by first | rfl | (simp; done), unhide HB⟩
  go_wp2_with fail
  refine ((unhide KB) _ (unhide HRW)).mono ?_
  rintro e u6 ⟨rfl, kb⟩
  have HBX := hide ((unhide HBX).call kb)
  have HRW := hide ((unhide HRW).call kb)
  have HB := hide ((unhide HB).trans (kb.mono (unhide HB).size))
  clear kb q0 q1 q2 q3 q4 q5 q6 q7 q8
  have q0 := (unhide HBX).1.1
  have q1 := (unhide HBX).1.2.1
  have q2 := (unhide HBX).1.2.2.1
  have q3 := (unhide HBX).2.1.1
  have q4 := (unhide HBX).2.1.2.1
  have q5 := (unhide HBX).2.1.2.2.1
  have q6 := (unhide HBX).2.2.1.1
  have q7 := (unhide HBX).2.2.1.2.1
  have q8 := (unhide HBX).2.2.1.2.2.1
  cases B
  · go_wp2_with fail
    refine ((unhide KS) _ (unhide HRW)).mono ?_
    rintro e u9 ⟨rfl, kb⟩
    have HB := hide ((unhide HB).trans (kb.mono (unhide HB).size))
    clear kb q0 q1 q2 q3 q4 q5 q6 q7 q8
    go_wp2
    go_ret
    exact ⟨by first | rfl | (simp; done), unhide HB⟩
  obtain ⟨jl, jx, jy, KJ, KJ2, E1, E2, E5, E7, EL⟩ : ∃ (jl : Bool) (jx jy : List (Int × Int)), Hid (∀ w, OrR w a1 a2 a3 vs fs rs oa ob xs ys oc od xs2 ys2 → Calls Tryd.prog 15 #[.agg #[.slice a1 vs.length c1, .slice a2 fs.length c2, .slice a3 rs.length c3], .agg #[.bool li, .slice oa xs.length ca, .slice ob ys.length cb], .agg #[.bool lj, .slice oc xs2.length cc, .slice od ys2.length cd]] w fun e w' => ∃ oj cj ok ck, e = .returned (.agg #[.bool jl, .slice oj jx.length cj, .slice ok jy.length ck]) ∧ RowsE w' w.heap.size oj cj ok ck jx jy ∧ Below w.heap.size w w') ∧ Hid (∀ w, OrR w a1 a2 a3 vs fs rs oa ob xs ys oc od xs2 ys2 → Calls Tryd.prog 15 #[.agg #[.slice a1 vs.length c1, .slice a2 fs.length c2, .slice a3 rs.length c3], .agg #[.bool lj, .slice oc xs2.length cc, .slice od ys2.length cd], .agg #[.bool li, .slice oa xs.length ca, .slice ob ys.length cb]] w fun e w' => ∃ oj cj ok ck, e = .returned (.agg #[.bool jl, .slice oj jx.length cj, .slice ok jy.length ck]) ∧ RowsE w' w.heap.size oj cj ok ck jx jy ∧ Below w.heap.size w w') ∧ Hid (leqD vs fs rs li xs ys jl jx jy = true) ∧ Hid (leqD vs fs rs lj xs2 ys2 jl jx jy = true) ∧ Hid (r = samB jl jx jy lj xs2 ys2) ∧ Hid (envB vs fs rs jl jx jy = true) ∧ Hid (jx.length ≤ 5 ∧ jy.length ≤ 2) :=
    ⟨joiL vs fs rs li xs ys lj xs2 ys2, (joiV vs fs rs li xs ys lj xs2 ys2).1, (joiV vs fs rs li xs ys lj xs2 ys2).2, fun w h => iEnvJoin_c a1 a2 a3 c1 c2 c3 vs fs rs li oa ob ca cb xs ys lj oc od cc cd xs2 ys2 w h.1 h.2.1 h.2.2.1 h.2.2.2.1 (unhide HZ) h.2.2.2.2.1 h.2.2.2.2.2.1 h.2.2.2.2.2.2.1 h.2.2.2.2.2.2.2,
     fun w h => by
       have k := iEnvJoin_c a1 a2 a3 c1 c2 c3 vs fs rs lj oc od cc cd xs2 ys2 li oa ob ca cb xs ys w h.1 h.2.1 h.2.2.1 h.2.2.2.1 (unhide HZ) h.2.2.2.2.2.2.1 h.2.2.2.2.2.2.2 h.2.2.2.2.1 h.2.2.2.2.2.1
       rw [(ord_swap (unhide HA) (unhide HBB)).1, (ord_swap (unhide HA) (unhide HBB)).2] at k
       exact k,
     ord_above1 (unhide HA) (unhide HBB), ord_above2 (unhide HA) (unhide HBB), (unhide HJR) (unhide HA) (unhide HBB), ord_env (unhide HA) (unhide HBB), env_few (ord_env (unhide HA) (unhide HBB))⟩
  obtain ⟨ml, mx, my, KM, F1, F2, F7, FL⟩ : ∃ (ml : Bool) (mx my : List (Int × Int)), Hid (∀ w, OrR w a1 a2 a3 vs fs rs oa ob xs ys oc od xs2 ys2 → Calls Tryd.prog 16 #[.agg #[.slice a1 vs.length c1, .slice a2 fs.length c2, .slice a3 rs.length c3], .agg #[.bool li, .slice oa xs.length ca, .slice ob ys.length cb], .agg #[.bool lj, .slice oc xs2.length cc, .slice od ys2.length cd]] w fun e w' => ∃ oj cj ok ck, e = .returned (.agg #[.bool ml, .slice oj mx.length cj, .slice ok my.length ck]) ∧ RowsE w' w.heap.size oj cj ok ck mx my ∧ Below w.heap.size w w') ∧ Hid (leqD vs fs rs ml mx my li xs ys = true) ∧ Hid (leqD vs fs rs ml mx my lj xs2 ys2 = true) ∧ Hid (envB vs fs rs ml mx my = true) ∧ Hid (mx.length ≤ 5 ∧ my.length ≤ 2) :=
    ⟨metL vs fs rs li xs ys lj xs2 ys2, (metV vs fs rs li xs ys lj xs2 ys2).1, (metV vs fs rs li xs ys lj xs2 ys2).2, fun w h => iEnvMeet_c a1 a2 a3 c1 c2 c3 vs fs rs li oa ob ca cb xs ys lj oc od cc cd xs2 ys2 w h.1 h.2.1 h.2.2.1 h.2.2.2.1 (unhide HZ) h.2.2.2.2.1 h.2.2.2.2.2.1 h.2.2.2.2.2.2.1 h.2.2.2.2.2.2.2, (ord_meet (unhide HA) (unhide HBB)).2.1, (ord_meet (unhide HA) (unhide HBB)).2.2, (ord_meet (unhide HA) (unhide HBB)).1, env_few (ord_meet (unhide HA) (unhide HBB)).1⟩
  go_wp2_with fail
  refine ((unhide KJ) _ (unhide HRW)).mono ?_
  rintro e u7 ⟨oj, cj, ok, ck, rfl, hre, kb⟩
  have HBX := hide ((unhide HBX).call kb)
  have HRW := hide ((unhide HRW).call kb)
  have HB := hide ((unhide HB).trans (kb.mono (unhide HB).size))
  clear kb q0 q1 q2 q3 q4 q5 q6 q7 q8
  have q0 := (unhide HBX).1.1
  have q1 := (unhide HBX).1.2.1
  have q2 := (unhide HBX).1.2.2.1
  have q3 := (unhide HBX).2.1.1
  have q4 := (unhide HBX).2.1.2.1
  have q5 := (unhide HBX).2.1.2.2.1
  have q6 := (unhide HBX).2.2.1.1
  have q7 := (unhide HBX).2.2.1.2.1
  have q8 := (unhide HBX).2.2.1.2.2.1
  have HJI := hide (hre.ivs (by have := unhide EL; omega))
  clear hre
  have HJB := hide (C3.new u7 (.bool jl) (.slice oj jx.length cj) (.slice ok jy.length ck) 30)
  have ka := (Below.refl _ u7).alloc (Nat.le_refl _) (Obj.cells #[.bool jl, .slice oj jx.length cj, .slice ok jy.length ck] 30)
  have HBX := hide ((unhide HBX).call ka)
  have HRW := hide ((unhide HRW).call ka)
  have HB := hide ((unhide HB).trans (ka.mono (unhide HB).size))
  have HJI := hide (And.intro ((unhide HJI).1.call ka) ((unhide HJI).2.call ka))
  go_upto_region 8 with fail
  generalize u7.alloc (Obj.cells #[.bool jl, .slice oj jx.length cj, .slice ok jy.length ck] 30) = u8 at HBX HRW HB HJI HJB ⊢
  generalize u7.heap.size = pj at HJB ⊢
  clear ka q0 q1 q2 q3 q4 q5 q6 q7 q8
  have q0 := (unhide HBX).1.1
  have q1 := (unhide HBX).1.2.1
  have q2 := (unhide HBX).1.2.2.1
  have q3 := (unhide HBX).2.1.1
  have q4 := (unhide HBX).2.1.2.1
  have q5 := (unhide HBX).2.1.2.2.1
  have q6 := (unhide HBX).2.2.1.1
  have q7 := (unhide HBX).2.2.1.2.1
  have q8 := (unhide HBX).2.2.1.2.2.1
  go_wp2_with fail
  refine ((unhide KM) _ (unhide HRW)).mono ?_
  rintro e v1 ⟨om, cm, on, cn, rfl, hre, kb⟩
  have HBX := hide ((unhide HBX).call kb)
  have HRW := hide ((unhide HRW).call kb)
  have HB := hide ((unhide HB).trans (kb.mono (unhide HB).size))
  have HJB := hide ((unhide HJB).call kb)
  have HJI := hide (And.intro ((unhide HJI).1.call kb) ((unhide HJI).2.call kb))
  clear kb q0 q1 q2 q3 q4 q5 q6 q7 q8
  have q0 := (unhide HBX).1.1
  have q1 := (unhide HBX).1.2.1
  have q2 := (unhide HBX).1.2.2.1
  have q3 := (unhide HBX).2.1.1
  have q4 := (unhide HBX).2.1.2.1
  have q5 := (unhide HBX).2.1.2.2.1
  have q6 := (unhide HBX).2.2.1.1
  have q7 := (unhide HBX).2.2.1.2.1
  have q8 := (unhide HBX).2.2.1.2.2.1
  have HMI := hide (hre.ivs (by have := unhide FL; omega))
  clear hre
  have HMB := hide (C3.new v1 (.bool ml) (.slice om mx.length cm) (.slice on my.length cn) 30)
  have ka := (Below.refl _ v1).alloc (Nat.le_refl _) (Obj.cells #[.bool ml, .slice om mx.length cm, .slice on my.length cn] 30)
  have HBX := hide ((unhide HBX).call ka)
  have HRW := hide ((unhide HRW).call ka)
  have HB := hide ((unhide HB).trans (ka.mono (unhide HB).size))
  have HJI := hide (And.intro ((unhide HJI).1.call ka) ((unhide HJI).2.call ka))
  have HMI := hide (And.intro ((unhide HMI).1.call ka) ((unhide HMI).2.call ka))
  have HJB := hide ((unhide HJB).call ka)
  go_upto_region 9 with fail
  generalize v1.alloc (Obj.cells #[.bool ml, .slice om mx.length cm, .slice on my.length cn] 30) = v2 at HBX HRW HB HJI HJB HMI HMB ⊢
  generalize v1.heap.size = pm at HMB ⊢
  clear ka q0 q1 q2 q3 q4 q5 q6 q7 q8
  have L1 : Hid (∀ w, Below v2.heap.size v2 w → Calls Tryd.prog 20 #[.agg #[.slice a1 vs.length c1, .slice a2 fs.length c2, .slice a3 rs.length c3], .agg #[.bool li, .slice oa xs.length ca, .slice ob ys.length cb], .agg #[.bool jl, .slice oj jx.length cj, .slice ok jy.length ck]] w fun e w' => e = .returned (.bool true) ∧ Below w.heap.size w w') := fun w k => by
    have q := iEnvLeq_c a1 a2 a3 c1 c2 c3 vs fs rs li oa ob ca cb xs ys jl oj ok cj ck jx jy w ((unhide HRW).1.call k) ((unhide HRW).2.1.call k) ((unhide HRW).2.2.1.call k) ((unhide HRW).2.2.2.1.call k) (unhide HZ) ((unhide HRW).2.2.2.2.1.call k) ((unhide HRW).2.2.2.2.2.1.call k) ((unhide HJI).1.call k) ((unhide HJI).2.call k)
    rw [unhide E1] at q
    exact q
  have L2 : Hid (∀ w, Below v2.heap.size v2 w → Calls Tryd.prog 20 #[.agg #[.slice a1 vs.length c1, .slice a2 fs.length c2, .slice a3 rs.length c3], .agg #[.bool lj, .slice oc xs2.length cc, .slice od ys2.length cd], .agg #[.bool jl, .slice oj jx.length cj, .slice ok jy.length ck]] w fun e w' => e = .returned (.bool true) ∧ Below w.heap.size w w') := fun w k => by
    have q := iEnvLeq_c a1 a2 a3 c1 c2 c3 vs fs rs lj oc od cc cd xs2 ys2 jl oj ok cj ck jx jy w ((unhide HRW).1.call k) ((unhide HRW).2.1.call k) ((unhide HRW).2.2.1.call k) ((unhide HRW).2.2.2.1.call k) (unhide HZ) ((unhide HRW).2.2.2.2.2.2.1.call k) ((unhide HRW).2.2.2.2.2.2.2.call k) ((unhide HJI).1.call k) ((unhide HJI).2.call k)
    rw [unhide E2] at q
    exact q
  have L3 : Hid (∀ w, Below v2.heap.size v2 w → Calls Tryd.prog 20 #[.agg #[.slice a1 vs.length c1, .slice a2 fs.length c2, .slice a3 rs.length c3], .agg #[.bool ml, .slice om mx.length cm, .slice on my.length cn], .agg #[.bool li, .slice oa xs.length ca, .slice ob ys.length cb]] w fun e w' => e = .returned (.bool true) ∧ Below w.heap.size w w') := fun w k => by
    have q := iEnvLeq_c a1 a2 a3 c1 c2 c3 vs fs rs ml om on cm cn mx my li oa ob ca cb xs ys w ((unhide HRW).1.call k) ((unhide HRW).2.1.call k) ((unhide HRW).2.2.1.call k) ((unhide HRW).2.2.2.1.call k) (unhide HZ) ((unhide HMI).1.call k) ((unhide HMI).2.call k) ((unhide HRW).2.2.2.2.1.call k) ((unhide HRW).2.2.2.2.2.1.call k)
    rw [unhide F1] at q
    exact q
  have L4 : Hid (∀ w, Below v2.heap.size v2 w → Calls Tryd.prog 20 #[.agg #[.slice a1 vs.length c1, .slice a2 fs.length c2, .slice a3 rs.length c3], .agg #[.bool ml, .slice om mx.length cm, .slice on my.length cn], .agg #[.bool lj, .slice oc xs2.length cc, .slice od ys2.length cd]] w fun e w' => e = .returned (.bool true) ∧ Below w.heap.size w w') := fun w k => by
    have q := iEnvLeq_c a1 a2 a3 c1 c2 c3 vs fs rs ml om on cm cn mx my lj oc od cc cd xs2 ys2 w ((unhide HRW).1.call k) ((unhide HRW).2.1.call k) ((unhide HRW).2.2.1.call k) ((unhide HRW).2.2.2.1.call k) (unhide HZ) ((unhide HMI).1.call k) ((unhide HMI).2.call k) ((unhide HRW).2.2.2.2.2.2.1.call k) ((unhide HRW).2.2.2.2.2.2.2.call k)
    rw [unhide F2] at q
    exact q
  have N1 : Hid (∀ w, Below v2.heap.size v2 w → Calls Tryd.prog 17 #[.agg #[.bool jl, .slice oj jx.length cj, .slice ok jy.length ck], .agg #[.bool lj, .slice oc xs2.length cc, .slice od ys2.length cd]] w fun e w' => e = .returned (.bool r) ∧ Below w.heap.size w w') := fun w k => by
    have q := sameEnv_c jl oj ok cj ck jx jy lj oc od cc cd xs2 ys2 w ((unhide HJI).1.call k) ((unhide HJI).2.call k) ((unhide HRW).2.2.2.2.2.2.1.call k) ((unhide HRW).2.2.2.2.2.2.2.call k)
    rw [← unhide E5] at q
    exact q
  have O1 : Hid (∀ w, Below v2.heap.size v2 w → Calls Tryd.prog 13 #[.agg #[.slice a1 vs.length c1, .slice a2 fs.length c2, .slice a3 rs.length c3], .agg #[.bool jl, .slice oj jx.length cj, .slice ok jy.length ck]] w fun e w' => e = .returned (.bool true) ∧ Below w.heap.size w w') := fun w k => by
    have q := iEnvOk_c a1 a2 a3 c1 c2 c3 vs fs rs jl oj ok cj ck jx jy w ((unhide HRW).1.call k) ((unhide HRW).2.1.call k) ((unhide HRW).2.2.1.call k) ((unhide HRW).2.2.2.1.call k) (unhide HZ) ((unhide HJI).1.call k) ((unhide HJI).2.call k)
    rw [unhide E7] at q
    exact q
  have O2 : Hid (∀ w, Below v2.heap.size v2 w → Calls Tryd.prog 13 #[.agg #[.slice a1 vs.length c1, .slice a2 fs.length c2, .slice a3 rs.length c3], .agg #[.bool ml, .slice om mx.length cm, .slice on my.length cn]] w fun e w' => e = .returned (.bool true) ∧ Below w.heap.size w w') := fun w k => by
    have q := iEnvOk_c a1 a2 a3 c1 c2 c3 vs fs rs ml om on cm cn mx my w ((unhide HRW).1.call k) ((unhide HRW).2.1.call k) ((unhide HRW).2.2.1.call k) ((unhide HRW).2.2.2.1.call k) (unhide HZ) ((unhide HMI).1.call k) ((unhide HMI).2.call k)
    rw [unhide F7] at q
    exact q
  have hs := S15.of (w0 := v2) (unhide HBX).1 (unhide HBX).2.1 (unhide HBX).2.2.1 (unhide HJB) (unhide HMB) (Below.refl _ _)
  have HHS := hide hs
  clear hs
  refine wp_region_held_drew (S := (S15 v2 u1.heap.size pj pm (.slice a1 vs.length c1) (.slice a2 fs.length c2) (.slice a3 rs.length c3) (.bool li) (.slice oa xs.length ca) (.slice ob ys.length cb) (.bool lj) (.slice oc xs2.length cc) (.slice od ys2.length cd) (.bool jl) (.slice oj jx.length cj) (.slice ok jy.length ck) (.bool ml) (.slice om mx.length cm) (.slice on my.length cn))) (by kernel_rfl) (S15.drew (unhide HHS)) (fun hHeld => ?_)
  refine wpAnyH_take (i := 0) (oi := { dst := some 53, op := Op.load 27 (Operand.tmp 3), type := 27, pos := "laws.go:716", after := #[], guard := none }) (v := ?_) rfl (by kernel_rfl) (by kernel_rfl) (by kernel_rfl) (fun _ _ _ h => h) (Or.inl ⟨by rfl, ?_⟩) (by assumption) ?_
  rotate_left
  · (intro w9 hSw; (try dsimp only at hSw); go_simp; try with_reducible rfl)
  try simp only [Act.put, List.setIfInBounds_toArray, List.set_cons_zero, List.set_cons_succ]
  refine wpAnyH_take (i := 1) (oi := { dst := some 54, op := Op.load 30 (Operand.tmp 4), type := 30, pos := "laws.go:716", after := #[], guard := none }) (v := ?_) rfl (by kernel_rfl) (by kernel_rfl) (by kernel_rfl) (fun _ _ _ h => h) (Or.inl ⟨by rfl, ?_⟩) (by assumption) ?_
  rotate_left
  · (intro w9 hSw; (try dsimp only at hSw); go_simp; try with_reducible rfl)
  try simp only [Act.put, List.setIfInBounds_toArray, List.set_cons_zero, List.set_cons_succ]
  refine wpAnyH_take (i := 2) (oi := { dst := some 55, op := Op.load 30 (Operand.tmp 7), type := 30, pos := "laws.go:716", after := #[], guard := none }) (v := ?_) rfl (by kernel_rfl) (by kernel_rfl) (by kernel_rfl) (fun _ _ _ h => h) (Or.inl ⟨by rfl, ?_⟩) (by assumption) ?_
  rotate_left
  · (intro w9 hSw; (try dsimp only at hSw); go_simp; try with_reducible rfl)
  try simp only [Act.put, List.setIfInBounds_toArray, List.set_cons_zero, List.set_cons_succ]
  refine wpAnyH_ready (rs := [3]) (by kernel_rfl) (by simp) ?_
  refine AllReadyH.cons (i := 3) (o := { dst := some 56, op := Op.call { callee := Callee.value (Operand.func 20), args := #[Operand.tmp 53, Operand.tmp 54, Operand.tmp 55], argTypes := #[27, 30, 30] }, type := 4, pos := "laws.go:716", after := #[{ on := 0, ground := Ground.data }, { on := 1, ground := Ground.data }, { on := 2, ground := Ground.data }], guard := none }) rfl (fun K hK => ?_) AllReadyH.nil
  go_simp
  refine ((unhide L1) _ (S15.bel hHeld)).mono ?_
  rintro e u9 ⟨rfl, kb⟩
  have hq := S15.call hHeld kb
  clear kb hHeld
  refine hK.out _ _ hq (fun hHeld => ?_)
  clear hK K hq
  try simp only [Act.put, List.setIfInBounds_toArray, List.set_cons_zero, List.set_cons_succ]
  refine wpAnyH_take (i := 4) (oi := { dst := some 57, op := Op.move (Operand.tmp 56), type := 4, pos := "laws.go:716", after := #[{ on := 3, ground := Ground.data }, { on := 3, ground := Ground.chain }], guard := none }) (v := ?_) rfl (by kernel_rfl) (by kernel_rfl) (by kernel_rfl) (fun _ _ _ h => h) (Or.inl ⟨by rfl, ?_⟩) (by assumption) ?_
  rotate_left
  · (intro w9 hSw; (try dsimp only at hSw); go_simp; try with_reducible rfl)
  try simp only [Act.put, List.setIfInBounds_toArray, List.set_cons_zero, List.set_cons_succ]
  refine wpAnyH_take (i := 5) (oi := { dst := some 58, op := Op.load 27 (Operand.tmp 3), type := 27, pos := "laws.go:716", after := #[{ on := 4, ground := Ground.guard }], guard := some (4, true) }) (v := ?_) rfl (by kernel_rfl) (by kernel_rfl) (by kernel_rfl) (fun _ _ _ h => h) (Or.inl ⟨by rfl, ?_⟩) (by assumption) ?_
  rotate_left
  · (intro w9 hSw; (try dsimp only at hSw); go_simp; try with_reducible rfl)
  try simp only [Act.put, List.setIfInBounds_toArray, List.set_cons_zero, List.set_cons_succ]
  refine wpAnyH_take (i := 6) (oi := { dst := some 59, op := Op.load 30 (Operand.tmp 5), type := 30, pos := "laws.go:716", after := #[{ on := 4, ground := Ground.guard }], guard := some (4, true) }) (v := ?_) rfl (by kernel_rfl) (by kernel_rfl) (by kernel_rfl) (fun _ _ _ h => h) (Or.inl ⟨by rfl, ?_⟩) (by assumption) ?_
  rotate_left
  · (intro w9 hSw; (try dsimp only at hSw); go_simp; try with_reducible rfl)
  try simp only [Act.put, List.setIfInBounds_toArray, List.set_cons_zero, List.set_cons_succ]
  refine wpAnyH_take (i := 7) (oi := { dst := some 60, op := Op.load 30 (Operand.tmp 7), type := 30, pos := "laws.go:716", after := #[{ on := 4, ground := Ground.guard }], guard := some (4, true) }) (v := ?_) rfl (by kernel_rfl) (by kernel_rfl) (by kernel_rfl) (fun _ _ _ h => h) (Or.inl ⟨by rfl, ?_⟩) (by assumption) ?_
  rotate_left
  · (intro w9 hSw; (try dsimp only at hSw); go_simp; try with_reducible rfl)
  try simp only [Act.put, List.setIfInBounds_toArray, List.set_cons_zero, List.set_cons_succ]
  refine wpAnyH_ready (rs := [8]) (by kernel_rfl) (by simp) ?_
  refine AllReadyH.cons (i := 8) (o := { dst := some 61, op := Op.call { callee := Callee.value (Operand.func 20), args := #[Operand.tmp 58, Operand.tmp 59, Operand.tmp 60], argTypes := #[27, 30, 30] }, type := 4, pos := "laws.go:716", after := #[{ on := 5, ground := Ground.data }, { on := 6, ground := Ground.data }, { on := 7, ground := Ground.data }, { on := 4, ground := Ground.chain }, { on := 4, ground := Ground.guard }], guard := some (4, true) }) rfl (fun K hK => ?_) AllReadyH.nil
  go_simp
  refine ((unhide L2) _ (S15.bel hHeld)).mono ?_
  rintro e u9 ⟨rfl, kb⟩
  have hq := S15.call hHeld kb
  clear kb hHeld
  refine hK.out _ _ hq (fun hHeld => ?_)
  clear hK K hq
  try simp only [Act.put, List.setIfInBounds_toArray, List.set_cons_zero, List.set_cons_succ]
  refine wpAnyH_take (i := 9) (oi := { dst := some 62, op := Op.pick (Operand.tmp 57) (Operand.tmp 61) (Operand.const (Value.bool false)), type := 4, pos := "laws.go:716", after := #[{ on := 4, ground := Ground.data }, { on := 8, ground := Ground.data }], guard := none }) (v := ?_) rfl (by kernel_rfl) (by kernel_rfl) (by kernel_rfl) (fun _ _ _ h => h) (Or.inl ⟨by rfl, ?_⟩) (by assumption) ?_
  rotate_left
  · (intro w9 hSw; (try dsimp only at hSw); go_simp; try with_reducible rfl)
  try simp only [Act.put, List.setIfInBounds_toArray, List.set_cons_zero, List.set_cons_succ]
  refine wpAnyH_take (i := 10) (oi := { dst := some 63, op := Op.move (Operand.tmp 62), type := 4, pos := "laws.go:716", after := #[{ on := 9, ground := Ground.data }, { on := 8, ground := Ground.chain }], guard := none }) (v := ?_) rfl (by kernel_rfl) (by kernel_rfl) (by kernel_rfl) (fun _ _ _ h => h) (Or.inl ⟨by rfl, ?_⟩) (by assumption) ?_
  rotate_left
  · (intro w9 hSw; (try dsimp only at hSw); go_simp; try with_reducible rfl)
  try simp only [Act.put, List.setIfInBounds_toArray, List.set_cons_zero, List.set_cons_succ]
  refine wpAnyH_take (i := 11) (oi := { dst := some 64, op := Op.load 27 (Operand.tmp 3), type := 27, pos := "laws.go:716", after := #[{ on := 10, ground := Ground.guard }], guard := some (10, true) }) (v := ?_) rfl (by kernel_rfl) (by kernel_rfl) (by kernel_rfl) (fun _ _ _ h => h) (Or.inl ⟨by rfl, ?_⟩) (by assumption) ?_
  rotate_left
  · (intro w9 hSw; (try dsimp only at hSw); go_simp; try with_reducible rfl)
  try simp only [Act.put, List.setIfInBounds_toArray, List.set_cons_zero, List.set_cons_succ]
  refine wpAnyH_take (i := 12) (oi := { dst := some 65, op := Op.load 30 (Operand.tmp 8), type := 30, pos := "laws.go:716", after := #[{ on := 10, ground := Ground.guard }], guard := some (10, true) }) (v := ?_) rfl (by kernel_rfl) (by kernel_rfl) (by kernel_rfl) (fun _ _ _ h => h) (Or.inl ⟨by rfl, ?_⟩) (by assumption) ?_
  rotate_left
  · (intro w9 hSw; (try dsimp only at hSw); go_simp; try with_reducible rfl)
  try simp only [Act.put, List.setIfInBounds_toArray, List.set_cons_zero, List.set_cons_succ]
  refine wpAnyH_take (i := 13) (oi := { dst := some 66, op := Op.load 30 (Operand.tmp 4), type := 30, pos := "laws.go:716", after := #[{ on := 10, ground := Ground.guard }], guard := some (10, true) }) (v := ?_) rfl (by kernel_rfl) (by kernel_rfl) (by kernel_rfl) (fun _ _ _ h => h) (Or.inl ⟨by rfl, ?_⟩) (by assumption) ?_
  rotate_left
  · (intro w9 hSw; (try dsimp only at hSw); go_simp; try with_reducible rfl)
  try simp only [Act.put, List.setIfInBounds_toArray, List.set_cons_zero, List.set_cons_succ]
  refine wpAnyH_ready (rs := [14]) (by kernel_rfl) (by simp) ?_
  refine AllReadyH.cons (i := 14) (o := { dst := some 67, op := Op.call { callee := Callee.value (Operand.func 20), args := #[Operand.tmp 64, Operand.tmp 65, Operand.tmp 66], argTypes := #[27, 30, 30] }, type := 4, pos := "laws.go:716", after := #[{ on := 11, ground := Ground.data }, { on := 12, ground := Ground.data }, { on := 13, ground := Ground.data }, { on := 10, ground := Ground.chain }, { on := 10, ground := Ground.guard }], guard := some (10, true) }) rfl (fun K hK => ?_) AllReadyH.nil
  go_simp
  refine ((unhide L3) _ (S15.bel hHeld)).mono ?_
  rintro e u9 ⟨rfl, kb⟩
  have hq := S15.call hHeld kb
  clear kb hHeld
  refine hK.out _ _ hq (fun hHeld => ?_)
  clear hK K hq
  try simp only [Act.put, List.setIfInBounds_toArray, List.set_cons_zero, List.set_cons_succ]
  refine wpAnyH_take (i := 15) (oi := { dst := some 68, op := Op.pick (Operand.tmp 63) (Operand.tmp 67) (Operand.const (Value.bool false)), type := 4, pos := "laws.go:716", after := #[{ on := 10, ground := Ground.data }, { on := 14, ground := Ground.data }], guard := none }) (v := ?_) rfl (by kernel_rfl) (by kernel_rfl) (by kernel_rfl) (fun _ _ _ h => h) (Or.inl ⟨by rfl, ?_⟩) (by assumption) ?_
  rotate_left
  · (intro w9 hSw; (try dsimp only at hSw); go_simp; try with_reducible rfl)
  try simp only [Act.put, List.setIfInBounds_toArray, List.set_cons_zero, List.set_cons_succ]
  refine wpAnyH_take (i := 16) (oi := { dst := some 69, op := Op.move (Operand.tmp 68), type := 4, pos := "laws.go:716", after := #[{ on := 15, ground := Ground.data }, { on := 14, ground := Ground.chain }], guard := none }) (v := ?_) rfl (by kernel_rfl) (by kernel_rfl) (by kernel_rfl) (fun _ _ _ h => h) (Or.inl ⟨by rfl, ?_⟩) (by assumption) ?_
  rotate_left
  · (intro w9 hSw; (try dsimp only at hSw); go_simp; try with_reducible rfl)
  try simp only [Act.put, List.setIfInBounds_toArray, List.set_cons_zero, List.set_cons_succ]
  refine wpAnyH_take (i := 17) (oi := { dst := some 70, op := Op.load 27 (Operand.tmp 3), type := 27, pos := "laws.go:716", after := #[{ on := 16, ground := Ground.guard }], guard := some (16, true) }) (v := ?_) rfl (by kernel_rfl) (by kernel_rfl) (by kernel_rfl) (fun _ _ _ h => h) (Or.inl ⟨by rfl, ?_⟩) (by assumption) ?_
  rotate_left
  · (intro w9 hSw; (try dsimp only at hSw); go_simp; try with_reducible rfl)
  try simp only [Act.put, List.setIfInBounds_toArray, List.set_cons_zero, List.set_cons_succ]
  refine wpAnyH_take (i := 18) (oi := { dst := some 71, op := Op.load 30 (Operand.tmp 8), type := 30, pos := "laws.go:716", after := #[{ on := 16, ground := Ground.guard }], guard := some (16, true) }) (v := ?_) rfl (by kernel_rfl) (by kernel_rfl) (by kernel_rfl) (fun _ _ _ h => h) (Or.inl ⟨by rfl, ?_⟩) (by assumption) ?_
  rotate_left
  · (intro w9 hSw; (try dsimp only at hSw); go_simp; try with_reducible rfl)
  try simp only [Act.put, List.setIfInBounds_toArray, List.set_cons_zero, List.set_cons_succ]
  refine wpAnyH_take (i := 19) (oi := { dst := some 72, op := Op.load 30 (Operand.tmp 5), type := 30, pos := "laws.go:716", after := #[{ on := 16, ground := Ground.guard }], guard := some (16, true) }) (v := ?_) rfl (by kernel_rfl) (by kernel_rfl) (by kernel_rfl) (fun _ _ _ h => h) (Or.inl ⟨by rfl, ?_⟩) (by assumption) ?_
  rotate_left
  · (intro w9 hSw; (try dsimp only at hSw); go_simp; try with_reducible rfl)
  try simp only [Act.put, List.setIfInBounds_toArray, List.set_cons_zero, List.set_cons_succ]
  refine wpAnyH_ready (rs := [20]) (by kernel_rfl) (by simp) ?_
  refine AllReadyH.cons (i := 20) (o := { dst := some 73, op := Op.call { callee := Callee.value (Operand.func 20), args := #[Operand.tmp 70, Operand.tmp 71, Operand.tmp 72], argTypes := #[27, 30, 30] }, type := 4, pos := "laws.go:716", after := #[{ on := 17, ground := Ground.data }, { on := 18, ground := Ground.data }, { on := 19, ground := Ground.data }, { on := 16, ground := Ground.chain }, { on := 16, ground := Ground.guard }], guard := some (16, true) }) rfl (fun K hK => ?_) AllReadyH.nil
  go_simp
  refine ((unhide L4) _ (S15.bel hHeld)).mono ?_
  rintro e u9 ⟨rfl, kb⟩
  have hq := S15.call hHeld kb
  clear kb hHeld
  refine hK.out _ _ hq (fun hHeld => ?_)
  clear hK K hq
  try simp only [Act.put, List.setIfInBounds_toArray, List.set_cons_zero, List.set_cons_succ]
  refine wpAnyH_take (i := 21) (oi := { dst := some 74, op := Op.pick (Operand.tmp 69) (Operand.tmp 73) (Operand.const (Value.bool false)), type := 4, pos := "laws.go:716", after := #[{ on := 16, ground := Ground.data }, { on := 20, ground := Ground.data }], guard := none }) (v := ?_) rfl (by kernel_rfl) (by kernel_rfl) (by kernel_rfl) (fun _ _ _ h => h) (Or.inl ⟨by rfl, ?_⟩) (by assumption) ?_
  rotate_left
  · (intro w9 hSw; (try dsimp only at hSw); go_simp; try with_reducible rfl)
  try simp only [Act.put, List.setIfInBounds_toArray, List.set_cons_zero, List.set_cons_succ]
  refine wpAnyH_take (i := 22) (oi := { dst := some 75, op := Op.move (Operand.tmp 74), type := 4, pos := "laws.go:716", after := #[{ on := 21, ground := Ground.data }, { on := 20, ground := Ground.chain }], guard := none }) (v := ?_) rfl (by kernel_rfl) (by kernel_rfl) (by kernel_rfl) (fun _ _ _ h => h) (Or.inl ⟨by rfl, ?_⟩) (by assumption) ?_
  rotate_left
  · (intro w9 hSw; (try dsimp only at hSw); go_simp; try with_reducible rfl)
  try simp only [Act.put, List.setIfInBounds_toArray, List.set_cons_zero, List.set_cons_succ]
  refine wpAnyH_take (i := 23) (oi := { dst := some 76, op := Op.move (Operand.tmp 6), type := 4, pos := "laws.go:716", after := #[{ on := 22, ground := Ground.guard }], guard := some (22, true) }) (v := ?_) rfl (by kernel_rfl) (by kernel_rfl) (by kernel_rfl) (fun _ _ _ h => h) (Or.inl ⟨by rfl, ?_⟩) (by assumption) ?_
  rotate_left
  · (intro w9 hSw; (try dsimp only at hSw); go_simp; try with_reducible rfl)
  try simp only [Act.put, List.setIfInBounds_toArray, List.set_cons_zero, List.set_cons_succ]
  refine wpAnyH_take (i := 24) (oi := { dst := some 77, op := Op.load 30 (Operand.tmp 7), type := 30, pos := "laws.go:716", after := #[{ on := 22, ground := Ground.guard }], guard := some (22, true) }) (v := ?_) rfl (by kernel_rfl) (by kernel_rfl) (by kernel_rfl) (fun _ _ _ h => h) (Or.inl ⟨by rfl, ?_⟩) (by assumption) ?_
  rotate_left
  · (intro w9 hSw; (try dsimp only at hSw); go_simp; try with_reducible rfl)
  try simp only [Act.put, List.setIfInBounds_toArray, List.set_cons_zero, List.set_cons_succ]
  refine wpAnyH_take (i := 25) (oi := { dst := some 78, op := Op.load 30 (Operand.tmp 5), type := 30, pos := "laws.go:716", after := #[{ on := 22, ground := Ground.guard }], guard := some (22, true) }) (v := ?_) rfl (by kernel_rfl) (by kernel_rfl) (by kernel_rfl) (fun _ _ _ h => h) (Or.inl ⟨by rfl, ?_⟩) (by assumption) ?_
  rotate_left
  · (intro w9 hSw; (try dsimp only at hSw); go_simp; try with_reducible rfl)
  try simp only [Act.put, List.setIfInBounds_toArray, List.set_cons_zero, List.set_cons_succ]
  refine wpAnyH_ready (rs := [26]) (by kernel_rfl) (by simp) ?_
  refine AllReadyH.cons (i := 26) (o := { dst := some 79, op := Op.call { callee := Callee.value (Operand.func 17), args := #[Operand.tmp 77, Operand.tmp 78], argTypes := #[30, 30] }, type := 4, pos := "laws.go:716", after := #[{ on := 24, ground := Ground.data }, { on := 25, ground := Ground.data }, { on := 22, ground := Ground.chain }, { on := 22, ground := Ground.guard }], guard := some (22, true) }) rfl (fun K hK => ?_) AllReadyH.nil
  go_simp
  refine ((unhide N1) _ (S15.bel hHeld)).mono ?_
  rintro e u9 ⟨rfl, kb⟩
  have hq := S15.call hHeld kb
  clear kb hHeld
  refine hK.out _ _ hq (fun hHeld => ?_)
  clear hK K hq
  try simp only [Act.put, List.setIfInBounds_toArray, List.set_cons_zero, List.set_cons_succ]
  refine wpAnyH_take (i := 27) (oi := { dst := some 80, op := Op.binOp BinOp.eql 4 (Operand.tmp 76) (Operand.tmp 79) 4, type := 4, pos := "laws.go:716", after := #[{ on := 23, ground := Ground.data }, { on := 26, ground := Ground.data }, { on := 22, ground := Ground.guard }], guard := some (22, true) }) (v := ?_) rfl (by kernel_rfl) (by kernel_rfl) (by kernel_rfl) (fun _ _ _ h => h) (Or.inl ⟨by rfl, ?_⟩) (by assumption) ?_
  rotate_left
  · (intro w9 hSw; (try dsimp only at hSw); go_simp; try with_reducible rfl)
  try simp only [Act.put, List.setIfInBounds_toArray, List.set_cons_zero, List.set_cons_succ]
  refine wpAnyH_take (i := 28) (oi := { dst := some 81, op := Op.pick (Operand.tmp 75) (Operand.tmp 80) (Operand.const (Value.bool false)), type := 4, pos := "laws.go:716", after := #[{ on := 22, ground := Ground.data }, { on := 27, ground := Ground.data }], guard := none }) (v := ?_) rfl (by kernel_rfl) (by kernel_rfl) (by kernel_rfl) (fun _ _ _ h => h) (Or.inl ⟨by rfl, ?_⟩) (by assumption) ?_
  rotate_left
  · (intro w9 hSw; (try dsimp only at hSw); go_simp; try with_reducible rfl)
  try simp only [Act.put, List.setIfInBounds_toArray, List.set_cons_zero, List.set_cons_succ]
  refine wpAnyH_take (i := 29) (oi := { dst := some 82, op := Op.move (Operand.tmp 81), type := 4, pos := "laws.go:716", after := #[{ on := 28, ground := Ground.data }, { on := 26, ground := Ground.chain }], guard := none }) (v := ?_) rfl (by kernel_rfl) (by kernel_rfl) (by kernel_rfl) (fun _ _ _ h => h) (Or.inl ⟨by rfl, ?_⟩) (by assumption) ?_
  rotate_left
  · (intro w9 hSw; (try dsimp only at hSw); go_simp; try with_reducible rfl)
  try simp only [Act.put, List.setIfInBounds_toArray, List.set_cons_zero, List.set_cons_succ]
  refine wpAnyH_take (i := 30) (oi := { dst := some 83, op := Op.load 27 (Operand.tmp 3), type := 27, pos := "laws.go:716", after := #[{ on := 29, ground := Ground.guard }], guard := some (29, true) }) (v := ?_) rfl (by kernel_rfl) (by kernel_rfl) (by kernel_rfl) (fun _ _ _ h => h) (Or.inl ⟨by rfl, ?_⟩) (by assumption) ?_
  rotate_left
  · (intro w9 hSw; (try dsimp only at hSw); go_simp; try with_reducible rfl)
  try simp only [Act.put, List.setIfInBounds_toArray, List.set_cons_zero, List.set_cons_succ]
  refine wpAnyH_take (i := 31) (oi := { dst := some 84, op := Op.load 30 (Operand.tmp 5), type := 30, pos := "laws.go:716", after := #[{ on := 29, ground := Ground.guard }], guard := some (29, true) }) (v := ?_) rfl (by kernel_rfl) (by kernel_rfl) (by kernel_rfl) (fun _ _ _ h => h) (Or.inl ⟨by rfl, ?_⟩) (by assumption) ?_
  rotate_left
  · (intro w9 hSw; (try dsimp only at hSw); go_simp; try with_reducible rfl)
  try simp only [Act.put, List.setIfInBounds_toArray, List.set_cons_zero, List.set_cons_succ]
  refine wpAnyH_take (i := 32) (oi := { dst := some 85, op := Op.load 30 (Operand.tmp 4), type := 30, pos := "laws.go:716", after := #[{ on := 29, ground := Ground.guard }], guard := some (29, true) }) (v := ?_) rfl (by kernel_rfl) (by kernel_rfl) (by kernel_rfl) (fun _ _ _ h => h) (Or.inl ⟨by rfl, ?_⟩) (by assumption) ?_
  rotate_left
  · (intro w9 hSw; (try dsimp only at hSw); go_simp; try with_reducible rfl)
  try simp only [Act.put, List.setIfInBounds_toArray, List.set_cons_zero, List.set_cons_succ]
  refine wpAnyH_take (i := 34) (oi := { dst := some 87, op := Op.load 30 (Operand.tmp 7), type := 30, pos := "laws.go:716", after := #[{ on := 29, ground := Ground.guard }], guard := some (29, true) }) (v := ?_) rfl (by kernel_rfl) (by kernel_rfl) (by kernel_rfl) (fun _ _ _ h => h) (Or.inl ⟨by rfl, ?_⟩) (by assumption) ?_
  rotate_left
  · (intro w9 hSw; (try dsimp only at hSw); go_simp; try with_reducible rfl)
  try simp only [Act.put, List.setIfInBounds_toArray, List.set_cons_zero, List.set_cons_succ]
  refine wpAnyH_ready (rs := [33]) (by kernel_rfl) (by simp) ?_
  refine AllReadyH.cons (i := 33) (o := { dst := some 86, op := Op.call { callee := Callee.value (Operand.func 15), args := #[Operand.tmp 83, Operand.tmp 84, Operand.tmp 85], argTypes := #[27, 30, 30] }, type := 30, pos := "laws.go:716", after := #[{ on := 30, ground := Ground.data }, { on := 31, ground := Ground.data }, { on := 32, ground := Ground.data }, { on := 29, ground := Ground.chain }, { on := 29, ground := Ground.guard }], guard := some (29, true) }) rfl (fun K hK => ?_) AllReadyH.nil
  go_simp
  refine ((unhide KJ2) _ ((unhide HRW).call (S15.bel hHeld))).mono ?_
  rintro e u9 ⟨oj2, cj2, ok2, ck2, rfl, hre, kb⟩
  have HI2 := hide (hre.ivs (by have := unhide EL; omega))
  clear hre
  have hq := S15.call hHeld kb
  clear kb hHeld
  refine hK.out _ _ hq (fun hHeld => ?_)
  clear hK K hq
  try simp only [Act.put, List.setIfInBounds_toArray, List.set_cons_zero, List.set_cons_succ]
  refine wpAnyH_ready (rs := [35]) (by kernel_rfl) (by simp) ?_
  refine AllReadyH.cons (i := 35) (o := { dst := some 88, op := Op.call { callee := Callee.value (Operand.func 17), args := #[Operand.tmp 86, Operand.tmp 87], argTypes := #[30, 30] }, type := 4, pos := "laws.go:716", after := #[{ on := 33, ground := Ground.data }, { on := 34, ground := Ground.data }, { on := 33, ground := Ground.chain }, { on := 29, ground := Ground.guard }], guard := some (29, true) }) rfl (fun K hK => ?_) AllReadyH.nil
  go_simp
  refine (same_again (unhide HI2) (And.intro ((unhide HJI).1.call (S15.bel hHeld)) ((unhide HJI).2.call (S15.bel hHeld)))).mono ?_
  rintro e u9 ⟨rfl, kb⟩
  have hq := S15.call hHeld kb
  clear kb hHeld
  refine hK.out _ _ hq (fun hHeld => ?_)
  clear hK K hq
  try simp only [Act.put, List.setIfInBounds_toArray, List.set_cons_zero, List.set_cons_succ]
  refine wpAnyH_take (i := 36) (oi := { dst := some 89, op := Op.pick (Operand.tmp 82) (Operand.tmp 88) (Operand.const (Value.bool false)), type := 4, pos := "laws.go:716", after := #[{ on := 29, ground := Ground.data }, { on := 35, ground := Ground.data }], guard := none }) (v := ?_) rfl (by kernel_rfl) (by kernel_rfl) (by kernel_rfl) (fun _ _ _ h => h) (Or.inl ⟨by rfl, ?_⟩) (by assumption) ?_
  rotate_left
  · (intro w9 hSw; (try dsimp only at hSw); go_simp; try with_reducible rfl)
  try simp only [Act.put, List.setIfInBounds_toArray, List.set_cons_zero, List.set_cons_succ]
  refine wpAnyH_take (i := 37) (oi := { dst := some 90, op := Op.move (Operand.tmp 89), type := 4, pos := "laws.go:716", after := #[{ on := 36, ground := Ground.data }, { on := 35, ground := Ground.chain }], guard := none }) (v := ?_) rfl (by kernel_rfl) (by kernel_rfl) (by kernel_rfl) (fun _ _ _ h => h) (Or.inl ⟨by rfl, ?_⟩) (by assumption) ?_
  rotate_left
  · (intro w9 hSw; (try dsimp only at hSw); go_simp; try with_reducible rfl)
  try simp only [Act.put, List.setIfInBounds_toArray, List.set_cons_zero, List.set_cons_succ]
  refine wpAnyH_take (i := 38) (oi := { dst := some 91, op := Op.load 27 (Operand.tmp 3), type := 27, pos := "laws.go:716", after := #[{ on := 37, ground := Ground.guard }], guard := some (37, true) }) (v := ?_) rfl (by kernel_rfl) (by kernel_rfl) (by kernel_rfl) (fun _ _ _ h => h) (Or.inl ⟨by rfl, ?_⟩) (by assumption) ?_
  rotate_left
  · (intro w9 hSw; (try dsimp only at hSw); go_simp; try with_reducible rfl)
  try simp only [Act.put, List.setIfInBounds_toArray, List.set_cons_zero, List.set_cons_succ]
  refine wpAnyH_take (i := 39) (oi := { dst := some 92, op := Op.load 30 (Operand.tmp 7), type := 30, pos := "laws.go:716", after := #[{ on := 37, ground := Ground.guard }], guard := some (37, true) }) (v := ?_) rfl (by kernel_rfl) (by kernel_rfl) (by kernel_rfl) (fun _ _ _ h => h) (Or.inl ⟨by rfl, ?_⟩) (by assumption) ?_
  rotate_left
  · (intro w9 hSw; (try dsimp only at hSw); go_simp; try with_reducible rfl)
  try simp only [Act.put, List.setIfInBounds_toArray, List.set_cons_zero, List.set_cons_succ]
  refine wpAnyH_ready (rs := [40]) (by kernel_rfl) (by simp) ?_
  refine AllReadyH.cons (i := 40) (o := { dst := some 93, op := Op.call { callee := Callee.value (Operand.func 13), args := #[Operand.tmp 91, Operand.tmp 92], argTypes := #[27, 30] }, type := 4, pos := "laws.go:716", after := #[{ on := 38, ground := Ground.data }, { on := 39, ground := Ground.data }, { on := 37, ground := Ground.chain }, { on := 37, ground := Ground.guard }], guard := some (37, true) }) rfl (fun K hK => ?_) AllReadyH.nil
  go_simp
  refine ((unhide O1) _ (S15.bel hHeld)).mono ?_
  rintro e u9 ⟨rfl, kb⟩
  have hq := S15.call hHeld kb
  clear kb hHeld
  refine hK.out _ _ hq (fun hHeld => ?_)
  clear hK K hq
  try simp only [Act.put, List.setIfInBounds_toArray, List.set_cons_zero, List.set_cons_succ]
  refine wpAnyH_take (i := 41) (oi := { dst := some 94, op := Op.pick (Operand.tmp 90) (Operand.tmp 93) (Operand.const (Value.bool false)), type := 4, pos := "laws.go:716", after := #[{ on := 37, ground := Ground.data }, { on := 40, ground := Ground.data }], guard := none }) (v := ?_) rfl (by kernel_rfl) (by kernel_rfl) (by kernel_rfl) (fun _ _ _ h => h) (Or.inl ⟨by rfl, ?_⟩) (by assumption) ?_
  rotate_left
  · (intro w9 hSw; (try dsimp only at hSw); go_simp; try with_reducible rfl)
  try simp only [Act.put, List.setIfInBounds_toArray, List.set_cons_zero, List.set_cons_succ]
  refine wpAnyH_take (i := 42) (oi := { dst := some 95, op := Op.move (Operand.tmp 94), type := 4, pos := "laws.go:716", after := #[{ on := 41, ground := Ground.data }, { on := 40, ground := Ground.chain }], guard := none }) (v := ?_) rfl (by kernel_rfl) (by kernel_rfl) (by kernel_rfl) (fun _ _ _ h => h) (Or.inl ⟨by rfl, ?_⟩) (by assumption) ?_
  rotate_left
  · (intro w9 hSw; (try dsimp only at hSw); go_simp; try with_reducible rfl)
  try simp only [Act.put, List.setIfInBounds_toArray, List.set_cons_zero, List.set_cons_succ]
  refine wpAnyH_take (i := 43) (oi := { dst := some 96, op := Op.load 27 (Operand.tmp 3), type := 27, pos := "laws.go:716", after := #[{ on := 42, ground := Ground.guard }], guard := some (42, true) }) (v := ?_) rfl (by kernel_rfl) (by kernel_rfl) (by kernel_rfl) (fun _ _ _ h => h) (Or.inl ⟨by rfl, ?_⟩) (by assumption) ?_
  rotate_left
  · (intro w9 hSw; (try dsimp only at hSw); go_simp; try with_reducible rfl)
  try simp only [Act.put, List.setIfInBounds_toArray, List.set_cons_zero, List.set_cons_succ]
  refine wpAnyH_take (i := 44) (oi := { dst := some 97, op := Op.load 30 (Operand.tmp 8), type := 30, pos := "laws.go:716", after := #[{ on := 42, ground := Ground.guard }], guard := some (42, true) }) (v := ?_) rfl (by kernel_rfl) (by kernel_rfl) (by kernel_rfl) (fun _ _ _ h => h) (Or.inl ⟨by rfl, ?_⟩) (by assumption) ?_
  rotate_left
  · (intro w9 hSw; (try dsimp only at hSw); go_simp; try with_reducible rfl)
  try simp only [Act.put, List.setIfInBounds_toArray, List.set_cons_zero, List.set_cons_succ]
  refine wpAnyH_ready (rs := [45]) (by kernel_rfl) (by simp) ?_
  refine AllReadyH.cons (i := 45) (o := { dst := some 98, op := Op.call { callee := Callee.value (Operand.func 13), args := #[Operand.tmp 96, Operand.tmp 97], argTypes := #[27, 30] }, type := 4, pos := "laws.go:716", after := #[{ on := 43, ground := Ground.data }, { on := 44, ground := Ground.data }, { on := 42, ground := Ground.chain }, { on := 42, ground := Ground.guard }], guard := some (42, true) }) rfl (fun K hK => ?_) AllReadyH.nil
  go_simp
  refine ((unhide O2) _ (S15.bel hHeld)).mono ?_
  rintro e u9 ⟨rfl, kb⟩
  have hq := S15.call hHeld kb
  clear kb hHeld
  refine hK.out _ _ hq (fun hHeld => ?_)
  clear hK K hq
  try simp only [Act.put, List.setIfInBounds_toArray, List.set_cons_zero, List.set_cons_succ]
  refine wpAnyH_take (i := 46) (oi := { dst := some 99, op := Op.pick (Operand.tmp 95) (Operand.tmp 98) (Operand.const (Value.bool false)), type := 4, pos := "laws.go:716", after := #[{ on := 42, ground := Ground.data }, { on := 45, ground := Ground.data }], guard := none }) (v := ?_) rfl (by kernel_rfl) (by kernel_rfl) (by kernel_rfl) (fun _ _ _ h => h) (Or.inl ⟨by rfl, ?_⟩) (by assumption) ?_
  rotate_left
  · (intro w9 hSw; (try dsimp only at hSw); go_simp; try with_reducible rfl)
  try simp only [Act.put, List.setIfInBounds_toArray, List.set_cons_zero, List.set_cons_succ]
  refine wpAnyH_take (i := 47) (oi := { dst := some 2, op := Op.assign (Operand.tmp 99), type := 4, pos := "laws.go:716", after := #[{ on := 46, ground := Ground.data }, { on := 45, ground := Ground.chain }, { on := 0, ground := Ground.phase }, { on := 1, ground := Ground.phase }, { on := 2, ground := Ground.phase }, { on := 3, ground := Ground.phase }, { on := 4, ground := Ground.phase }, { on := 5, ground := Ground.phase }, { on := 6, ground := Ground.phase }, { on := 7, ground := Ground.phase }, { on := 8, ground := Ground.phase }, { on := 9, ground := Ground.phase }, { on := 10, ground := Ground.phase }, { on := 11, ground := Ground.phase }, { on := 12, ground := Ground.phase }, { on := 13, ground := Ground.phase }, { on := 14, ground := Ground.phase }, { on := 15, ground := Ground.phase }, { on := 16, ground := Ground.phase }, { on := 17, ground := Ground.phase }, { on := 18, ground := Ground.phase }, { on := 19, ground := Ground.phase }, { on := 20, ground := Ground.phase }, { on := 21, ground := Ground.phase }, { on := 22, ground := Ground.phase }, { on := 23, ground := Ground.phase }, { on := 24, ground := Ground.phase }, { on := 25, ground := Ground.phase }, { on := 26, ground := Ground.phase }, { on := 27, ground := Ground.phase }, { on := 28, ground := Ground.phase }, { on := 29, ground := Ground.phase }, { on := 30, ground := Ground.phase }, { on := 31, ground := Ground.phase }, { on := 32, ground := Ground.phase }, { on := 33, ground := Ground.phase }, { on := 34, ground := Ground.phase }, { on := 35, ground := Ground.phase }, { on := 36, ground := Ground.phase }, { on := 37, ground := Ground.phase }, { on := 38, ground := Ground.phase }, { on := 39, ground := Ground.phase }, { on := 40, ground := Ground.phase }, { on := 41, ground := Ground.phase }, { on := 42, ground := Ground.phase }, { on := 43, ground := Ground.phase }, { on := 44, ground := Ground.phase }, { on := 45, ground := Ground.phase }, { on := 46, ground := Ground.phase }], guard := none }) (v := ?_) rfl (by kernel_rfl) (by kernel_rfl) (by kernel_rfl) (fun _ _ _ h => h) (Or.inl ⟨by rfl, ?_⟩) (by assumption) ?_
  rotate_left
  · (intro w9 hSw; (try dsimp only at hSw); go_simp; try with_reducible rfl)
  try simp only [Act.put, List.setIfInBounds_toArray, List.set_cons_zero, List.set_cons_succ]
  refine wpAnyH_done (by kernel_rfl) ?_ _
  have HB := hide ((unhide HB).trans ((S15.bel hHeld).mono (unhide HB).size))
  clear hHeld
  go_wp2
  go_ret
  exact ⟨rfl, unhide HB⟩
end Go.Proofs.YtoipaejbkcdioaaDoor
