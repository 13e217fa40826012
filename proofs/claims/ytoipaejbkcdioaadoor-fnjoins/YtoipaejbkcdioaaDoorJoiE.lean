/- Joined bounds: the program's function. -/
import Derived.Test.YtoipaejbkcdioaaDoorJoiD
namespace Go.Proofs.YtoipaejbkcdioaaDoor
open Go.RowKit
set_option linter.unusedSimpArgs false
set_option linter.unusedVariables false

set_option maxRecDepth 20000 in
set_option maxHeartbeats 2000000 in
theorem iEnvJoin_c (a1 a2 a3 : Option Addr) (c1 c2 c3 : Nat) (vs fs : List ByteArray) (rs : List (ByteArray × Int)) (li : Bool) (e1 e2 : Option Addr) (d1 d2 : Nat) (xs ys : List (Int × Int)) (lj : Bool) (e3 e4 : Option Addr) (d3 d4 : Nat) (xs2 ys2 : List (Int × Int)) (w : World) (hw : KW w) (hv : Strs w a1 vs) (hf : Strs w a2 fs) (hr : Arrs w a3 rs)
    (hz : ∀ x ∈ namesOf vs fs rs, x.size ≤ 1048576) (hx : Ivs w e1 xs) (hy : Ivs w e2 ys) (hx2 : Ivs w e3 xs2) (hy2 : Ivs w e4 ys2) :
    Calls Tryd.prog 15 #[.agg #[.slice a1 vs.length c1, .slice a2 fs.length c2, .slice a3 rs.length c3], .agg #[.bool li, .slice e1 xs.length d1, .slice e2 ys.length d2], .agg #[.bool lj, .slice e3 xs2.length d3, .slice e4 ys2.length d4]] w
    fun e w' => ∃ oa ca ob cb, e = .returned (.agg #[.bool (joiL vs fs rs li xs ys lj xs2 ys2), .slice oa (joiV vs fs rs li xs ys lj xs2 ys2).1.length ca, .slice ob (joiV vs fs rs li xs ys lj xs2 ys2).2.length cb]) ∧ RowsE w' w.heap.size oa ca ob cb (joiV vs fs rs li xs ys lj xs2 ys2).1 (joiV vs fs rs li xs ys lj xs2 ys2).2 ∧ Below w.heap.size w w' := by
  have HW := hide hw
  have HV := hide hv
  have HF := hide hf
  have HR := hide hr
  have HZ := hide hz
  have HX := hide hx
  have HY := hide hy
  have HX2 := hide hx2
  have HY2 := hide hy2
  have HB := hide (Q5.new w (.slice a1 vs.length c1) (.slice a2 fs.length c2) (.slice a3 rs.length c3) (.bool li) (.slice e1 xs.length d1) (.slice e2 ys.length d2) (.bool lj) (.slice e3 xs2.length d3) (.slice e4 ys2.length d4) 27 30 30 30)
  clear hw hv hf hr hz hx hy hx2 hy2
  go_enter Tryd.func15, Tryd.ntmps15
  go_wp2_with fail
  generalize (((w.alloc (Obj.cells #[.slice a1 vs.length c1, .slice a2 fs.length c2, .slice a3 rs.length c3] 27)).alloc (Obj.cells #[.bool li, .slice e1 xs.length d1, .slice e2 ys.length d2] 30)).alloc (Obj.cells #[.bool lj, .slice e3 xs2.length d3, .slice e4 ys2.length d4] 30)).alloc (Obj.cells #[.bool false, .slice none 0 0, .slice none 0 0] 30) = u at HB ⊢
  refine (joinedBy_c a1 a2 a3 c1 c2 c3 vs fs rs li e1 e2 d1 d2 xs ys lj e3 e4 d3 d4 xs2 ys2 _ ((unhide HW).call (unhide HB).bel) ((unhide HV).call (unhide HB).bel) ((unhide HF).call (unhide HB).bel) ((unhide HR).call (unhide HB).bel) (unhide HZ) ((unhide HX).call (unhide HB).bel) ((unhide HY).call (unhide HB).bel) ((unhide HX2).call (unhide HB).bel) ((unhide HY2).call (unhide HB).bel)).mono ?_
  rintro e u1 ⟨oa, ca, ob, cb, rfl, hrows, kb⟩
  have z3 : w.heap.size + 3 < u.heap.size := (unhide HB).2.lt
  have HB := hide ((unhide HB).call kb)
  have HRW := hide hrows
  clear kb hrows
  have r0 := (unhide HB).2.1
  have r1 := (unhide HB).2.2.1
  have r2 := (unhide HB).2.2.2.1
  have f0 := (unhide HB).2.2.2.2 0
  have f1 := (unhide HB).2.2.2.2 1
  have f2 := (unhide HB).2.2.2.2 2
  go_wp2
  exact bodyPost_ret (v := .agg #[.bool (joiL vs fs rs li xs ys lj xs2 ys2), .slice oa (joiV vs fs rs li xs ys lj xs2 ys2).1.length ca, .slice ob (joiV vs fs rs li xs ys lj xs2 ys2).2.length cb]) (by simp [results, Tryd.results15, go_sem, r0, r1, r2]) rfl ⟨oa, ca, ob, cb, rfl, ((((unhide HRW).set (b := w.heap.size + 3) (by omega)).set (b := w.heap.size + 3) (by omega)).set (b := w.heap.size + 3) (by omega)).down (B' := w.heap.size) (by omega), (((unhide HB).bel.setCell (by first | exact Nat.le_add_right _ _ | (simp; done) | (simp; omega)) _).setCell (by first | exact Nat.le_add_right _ _ | (simp; done) | (simp; omega)) _).setCell (by first | exact Nat.le_add_right _ _ | (simp; done) | (simp; omega)) _⟩
end Go.Proofs.YtoipaejbkcdioaaDoor
