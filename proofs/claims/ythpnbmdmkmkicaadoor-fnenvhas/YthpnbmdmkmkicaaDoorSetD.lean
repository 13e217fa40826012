/- One variable's interval is set: the program's EnvSet. -/
import Derived.Test.YthpnbmdmkmkicaaDoorSetC
namespace Go.Proofs.YthpnbmdmkmkicaaDoor
open Go.RowKit
set_option linter.unusedSimpArgs false
set_option linter.unusedVariables false

/-- A declaration, bounds, an interval and the answer, each in a block. -/
def Q4 (w0 : World) (x0 y0 z0 x1 y1 z1 : Value) (al ah : Int) (u : World) : Prop := C3 u w0.heap.size x0 y0 z0 ∧ C3 u (w0.heap.size + 1) x1 y1 z1 ∧ (u.cell? ⟨w0.heap.size + 2, 0, none⟩ = some (.int .i64 al) ∧ u.cell? ⟨w0.heap.size + 2, 1, none⟩ = some (.int .i64 ah) ∧ w0.heap.size + 2 < u.heap.size) ∧ C3 u (w0.heap.size + 3) (.bool false) (.slice none 0 0) (.slice none 0 0) ∧ Below w0.heap.size w0 u
theorem Q4.call {w0 u v : World} {x0 y0 z0 x1 y1 z1 : Value} {al ah : Int} (h : Q4 w0 x0 y0 z0 x1 y1 z1 al ah u) (hb : Below u.heap.size u v) : Q4 w0 x0 y0 z0 x1 y1 z1 al ah v :=
  ⟨h.1.call hb, h.2.1.call hb, ⟨(hb.cell (by exact h.2.2.1.2.2)).trans h.2.2.1.1, (hb.cell (by exact h.2.2.1.2.2)).trans h.2.2.1.2.1, Nat.lt_of_lt_of_le h.2.2.1.2.2 hb.size⟩, h.2.2.2.1.call hb, h.2.2.2.2.trans (hb.mono h.2.2.2.2.size)⟩
theorem Q4.new (w : World) (x0 y0 z0 x1 y1 z1 : Value) (al ah : Int) (t0 t1 t2 t3 : TypeId) : Q4 w x0 y0 z0 x1 y1 z1 al ah ((((w.alloc (Obj.cells #[x0, y0, z0] t0)).alloc (Obj.cells #[x1, y1, z1] t1)).alloc (Obj.cells #[.int .i64 al, .int .i64 ah] t2)).alloc (Obj.cells #[.bool false, .slice none 0 0, .slice none 0 0] t3)) := by
  have T0 := (((C3.new w x0 y0 z0 t0).alloc (Obj.cells #[x1, y1, z1] t1)).alloc (Obj.cells #[.int .i64 al, .int .i64 ah] t2)).alloc (Obj.cells #[.bool false, .slice none 0 0, .slice none 0 0] t3)
  have T1 := ((C3.new (w.alloc (Obj.cells #[x0, y0, z0] t0)) x1 y1 z1 t1).alloc (Obj.cells #[.int .i64 al, .int .i64 ah] t2)).alloc (Obj.cells #[.bool false, .slice none 0 0, .slice none 0 0] t3)
  have T3 := C3.new (((w.alloc (Obj.cells #[x0, y0, z0] t0)).alloc (Obj.cells #[x1, y1, z1] t1)).alloc (Obj.cells #[.int .i64 al, .int .i64 ah] t2)) (.bool false) (.slice none 0 0) (.slice none 0 0) t3
  rw [show (w.alloc (Obj.cells #[x0, y0, z0] t0)).heap.size = w.heap.size + 1 by simp] at T1
  rw [show (((w.alloc (Obj.cells #[x0, y0, z0] t0)).alloc (Obj.cells #[x1, y1, z1] t1)).alloc (Obj.cells #[.int .i64 al, .int .i64 ah] t2)).heap.size = w.heap.size + 3 by simp] at T3
  exact ⟨T0, T1, ⟨by simp [go_sem], by simp [go_sem], by simp⟩, T3, ((((Below.refl _ _).alloc (Nat.le_refl _) _).alloc (by simp) _).alloc (by simp; omega) _).alloc (by simp; omega) _⟩
/-- What is set is right. -/
def setOk (vs fs : List ByteArray) (rs : List (ByteArray × Int)) (li : Bool) (xs ys : List (Int × Int)) (v al ah : Int) : Bool := envB vs fs rs li xs ys && (li && (decide (0 ≤ v ∧ v < vs.length) && okB al ah))
/-- The bounds that come out. -/
def setX (vs fs : List ByteArray) (rs : List (ByteArray × Int)) (li : Bool) (xs ys : List (Int × Int)) (v al ah : Int) : List (Int × Int) := if setOk vs fs rs li xs ys v al ah = true then xs.set v.toNat (al, ah) else []
def setY (vs fs : List ByteArray) (rs : List (ByteArray × Int)) (li : Bool) (xs ys : List (Int × Int)) (v al ah : Int) : List (Int × Int) := if setOk vs fs rs li xs ys v al ah = true then ys else []
theorem rows_nil (w : World) (B : Nat) : RowsE w B none 0 none 0 [] [] := ⟨World.ownsRow_nil _ _ _ _, World.ownsRow_nil _ _ _ _, fun x y h => by cases h⟩
theorem isBelow_c (n m : Int) (w : World) : Calls Tryd.prog 52 #[.int .i64 n, .int .i64 m] w fun e w' => e = .returned (.bool (decide (0 ≤ n ∧ n < m))) ∧ w' = w := by
  by_cases h1 : 0 ≤ n
  · go_enter Tryd.func52, Tryd.ntmps52
    go_wp2
    go_ret
    exact ⟨ret_bool (by simp [h1]), rfl⟩
  · go_enter Tryd.func52, Tryd.ntmps52
    go_wp2
    go_ret
    exact ⟨ret_bool (by simp; omega), rfl⟩
set_option maxRecDepth 20000 in
set_option maxHeartbeats 8000000 in
theorem iEnvSet_c (a1 a2 a3 : Option Addr) (c1 c2 c3 : Nat) (vs fs : List ByteArray) (rs : List (ByteArray × Int)) (li : Bool) (e1 e2 : Option Addr) (d1 d2 : Nat) (xs ys : List (Int × Int)) (v al ah : Int) (w : World) (hw : KW w) (hv : Strs w a1 vs) (hf : Strs w a2 fs) (hr : Arrs w a3 rs)
    (hz : ∀ x ∈ namesOf vs fs rs, x.size ≤ 1048576) (hx : Ivs w e1 xs) (hy : Ivs w e2 ys) :
    Calls Tryd.prog 19 #[.agg #[.slice a1 vs.length c1, .slice a2 fs.length c2, .slice a3 rs.length c3], .agg #[.bool li, .slice e1 xs.length d1, .slice e2 ys.length d2], .int .i64 v, .agg #[.int .i64 al, .int .i64 ah]] w fun e w' => ∃ oa ca ob cb, e = .returned (.agg #[.bool (setOk vs fs rs li xs ys v al ah), .slice oa (setX vs fs rs li xs ys v al ah).length ca, .slice ob (setY vs fs rs li xs ys v al ah).length cb]) ∧ RowsE w' w.heap.size oa ca ob cb (setX vs fs rs li xs ys v al ah) (setY vs fs rs li xs ys v al ah) ∧ Below w.heap.size w w' := by
  have HV := hide hv
  have HF := hide hf
  have HR := hide hr
  have HZ := hide hz
  have HX := hide hx
  have HY := hide hy
  have HW := hide hw
  have HB := hide (Q4.new w (.slice a1 vs.length c1) (.slice a2 fs.length c2) (.slice a3 rs.length c3) (.bool li) (.slice e1 xs.length d1) (.slice e2 ys.length d2) al ah 27 30 47 30)
  clear hv hf hr hz hx hy hw
  go_enter Tryd.func19, Tryd.ntmps19
  go_wp2_with fail
  generalize (((w.alloc (Obj.cells #[.slice a1 vs.length c1, .slice a2 fs.length c2, .slice a3 rs.length c3] 27)).alloc (Obj.cells #[.bool li, .slice e1 xs.length d1, .slice e2 ys.length d2] 30)).alloc (Obj.cells #[.int .i64 al, .int .i64 ah] 47)).alloc (Obj.cells #[.bool false, .slice none 0 0, .slice none 0 0] 30) = u at HB ⊢
  refine (iEnvOk_c a1 a2 a3 c1 c2 c3 vs fs rs li e1 e2 d1 d2 xs ys _ ((unhide HW).call (unhide HB).2.2.2.2) ((unhide HV).call (unhide HB).2.2.2.2) ((unhide HF).call (unhide HB).2.2.2.2) ((unhide HR).call (unhide HB).2.2.2.2) (unhide HZ) ((unhide HX).call (unhide HB).2.2.2.2) ((unhide HY).call (unhide HB).2.2.2.2)).mono ?_
  rintro e u1 ⟨rfl, kb⟩
  have HB := hide ((unhide HB).call kb)
  clear kb
  have p0 := (unhide HB).1.1
  have p1 := (unhide HB).1.2.1
  have p2 := (unhide HB).1.2.2.1
  have q0 := (unhide HB).2.1.1
  have q1 := (unhide HB).2.1.2.1
  have q2 := (unhide HB).2.1.2.2.1
  have i0 := (unhide HB).2.2.1.1
  have i1 := (unhide HB).2.2.1.2.1
  have r0 := (unhide HB).2.2.2.1.1
  have r1 := (unhide HB).2.2.2.1.2.1
  have r2 := (unhide HB).2.2.2.1.2.2.1
  have f0 := (unhide HB).2.2.2.1.2.2.2 0
  have f1 := (unhide HB).2.2.2.1.2.2.2 1
  have f2 := (unhide HB).2.2.2.1.2.2.2 2
  cases h1 : envB vs fs rs li xs ys
  · have HN := hide (show setOk vs fs rs li xs ys v al ah = false by simp [setOk, h1])
    clear h1
    go_wp2
    rw [setX, setY, unhide HN]
    exact bodyPost_ret (v := .agg #[.bool false, .slice none 0 0, .slice none 0 0]) (by simp [results, Tryd.results19, go_sem, r0, r1, r2]) rfl ⟨none, 0, none, 0, rfl, rows_nil _ _, (((unhide HB).2.2.2.2.setCell (by first | exact Nat.le_add_right _ _ | (simp; done) | (simp; omega)) _).setCell (by first | exact Nat.le_add_right _ _ | (simp; done) | (simp; omega)) _).setCell (by first | exact Nat.le_add_right _ _ | (simp; done) | (simp; omega)) _⟩
  have H1 := hide h1
  clear h1
  cases li
  · have HN := hide (show setOk vs fs rs false xs ys v al ah = false by simp [setOk])
    go_wp2
    rw [setX, setY, unhide HN]
    exact bodyPost_ret (v := .agg #[.bool false, .slice none 0 0, .slice none 0 0]) (by simp [results, Tryd.results19, go_sem, r0, r1, r2]) rfl ⟨none, 0, none, 0, rfl, rows_nil _ _, (((unhide HB).2.2.2.2.setCell (by first | exact Nat.le_add_right _ _ | (simp; done) | (simp; omega)) _).setCell (by first | exact Nat.le_add_right _ _ | (simp; done) | (simp; omega)) _).setCell (by first | exact Nat.le_add_right _ _ | (simp; done) | (simp; omega)) _⟩
  have HL := hide (env_len (unhide H1) rfl)
  have lv : (vs.length : Int) ≤ 5 := by have := unhide HL; omega
  go_wp2_with fail
  refine (isBelow_c _ _ _).mono ?_
  rintro e u2 ⟨rfl, rfl⟩
  by_cases h2 : 0 ≤ v ∧ v < (vs.length : Int)
  case neg =>
    rw [decide_eq_false h2]
    have HN := hide (show setOk vs fs rs true xs ys v al ah = false by unfold setOk; rw [decide_eq_false h2]; simp)
    clear h2
    go_wp2
    rw [setX, setY, unhide HN]
    exact bodyPost_ret (v := .agg #[.bool false, .slice none 0 0, .slice none 0 0]) (by simp [results, Tryd.results19, go_sem, r0, r1, r2]) rfl ⟨none, 0, none, 0, rfl, rows_nil _ _, (((unhide HB).2.2.2.2.setCell (by first | exact Nat.le_add_right _ _ | (simp; done) | (simp; omega)) _).setCell (by first | exact Nat.le_add_right _ _ | (simp; done) | (simp; omega)) _).setCell (by first | exact Nat.le_add_right _ _ | (simp; done) | (simp; omega)) _⟩
  rw [decide_eq_true h2]
  go_wp2_with fail
  refine (IvOk_c _ _ _).mono ?_
  rintro e u3 ⟨rfl, kb⟩
  have HB := hide ((unhide HB).call kb)
  clear kb p0 p1 p2 q0 q1 q2 i0 i1 r0 r1 r2 f0 f1 f2
  have p0 := (unhide HB).1.1
  have p1 := (unhide HB).1.2.1
  have p2 := (unhide HB).1.2.2.1
  have q0 := (unhide HB).2.1.1
  have q1 := (unhide HB).2.1.2.1
  have q2 := (unhide HB).2.1.2.2.1
  have i0 := (unhide HB).2.2.1.1
  have i1 := (unhide HB).2.2.1.2.1
  have r0 := (unhide HB).2.2.2.1.1
  have r1 := (unhide HB).2.2.2.1.2.1
  have r2 := (unhide HB).2.2.2.1.2.2.1
  have f0 := (unhide HB).2.2.2.1.2.2.2 0
  have f1 := (unhide HB).2.2.2.1.2.2.2 1
  have f2 := (unhide HB).2.2.2.1.2.2.2 2
  cases h3 : okB al ah
  · have HN := hide (show setOk vs fs rs true xs ys v al ah = false by simp [setOk, h3])
    clear h3
    go_wp2
    rw [setX, setY, unhide HN]
    exact bodyPost_ret (v := .agg #[.bool false, .slice none 0 0, .slice none 0 0]) (by simp [results, Tryd.results19, go_sem, r0, r1, r2]) rfl ⟨none, 0, none, 0, rfl, rows_nil _ _, (((unhide HB).2.2.2.2.setCell (by first | exact Nat.le_add_right _ _ | (simp; done) | (simp; omega)) _).setCell (by first | exact Nat.le_add_right _ _ | (simp; done) | (simp; omega)) _).setCell (by first | exact Nat.le_add_right _ _ | (simp; done) | (simp; omega)) _⟩
  have HOK := hide (show setOk vs fs rs true xs ys v al ah = true by unfold setOk; rw [unhide H1, decide_eq_true h2, h3]; rfl)
  clear h3
  go_wp2_with fail
  refine (copied_c (w.heap.size + 1) true e1 e2 d1 d2 xs ys _ (unhide HB).2.1 ((unhide HX).call (unhide HB).2.2.2.2) ((unhide HY).call (unhide HB).2.2.2.2) (by have := unhide HL; omega)).mono ?_
  rintro e u4 ⟨oa, ca, ob, cb, rfl, hrows, kb⟩
  have z3 := (unhide HB).2.2.2.1.lt
  have ka := (Below.refl _ u4).alloc (Nat.le_refl _) (Obj.cells #[.bool true, .slice oa xs.length ca, .slice ob ys.length cb] 30)
  have HB := hide (((unhide HB).call kb).call ka)
  have HRW := hide (hrows.call ka)
  have HE := hide (C3.new u4 (.bool true) (.slice oa xs.length ca) (.slice ob ys.length cb) 30)
  have hl0 := h2.1
  have hl1 : v < (xs.length : Int) := by have := unhide HL; omega
  obtain ⟨X, hX⟩ : ∃ X, X = u4.heap.size := ⟨_, rfl⟩
  obtain ⟨u5, hz⟩ : ∃ z, z = u4.alloc (Obj.cells #[.bool true, .slice oa xs.length ca, .slice ob ys.length cb] 30) := ⟨_, rfl⟩
  have zX : u3.heap.size ≤ X := by rw [hX]; exact kb.size
  have gX : ∀ g, oa = some ⟨g, 0, none⟩ → 0 < xs.length → g < X := fun g e h => by
    have := (hrows.1.lt g (by rw [e]; rfl)).2
    omega
  rw [← hX, ← hz] at HE
  rw [← hz] at HB HRW
  have hXZ := hide (And.intro hX hz)
  clear hX hz ka kb hrows p0 p1 p2 q0 q1 q2 i0 i1 r0 r1 r2 f0 f1 f2
  go_upto_region 4 with fail
  rw [← (unhide hXZ).1, ← (unhide hXZ).2]
  clear hXZ
  obtain ⟨g, hg, g1, g2, ⟨v0, v1, w0, w1⟩, gf, hrows2⟩ := (unhide HRW).write (v := v.toNat) (by omega) (al, ah)
  have gX' := gX g hg (by omega)
  subst hg
  have gf0 := gf (v.toNat * 2)
  have gf1 := gf (v.toNat * 2 + 1)
  have x1 := (unhide HE).2.1
  have i0 := (unhide HB).2.2.1.1
  have i1 := (unhide HB).2.2.1.2.1
  have HR6 := hide hrows2
  have HE6 := hide (((unhide HE).other (c := g) (o := v.toNat * 2) (v := .int .i64 al) (by omega)).other (c := g) (o := v.toNat * 2 + 1) (v := .int .i64 ah) (by omega))
  have HC6 := hide (((unhide HB).2.2.2.1.other (c := g) (o := v.toNat * 2) (v := .int .i64 al) (by omega)).other (c := g) (o := v.toNat * 2 + 1) (v := .int .i64 ah) (by omega))
  have HK6 := hide ((((unhide HB).2.2.2.2.setCell (p := ⟨g, v.toNat * 2, none⟩) (by show w.heap.size ≤ g; omega) (.int .i64 al))).setCell (p := ⟨g, v.toNat * 2 + 1, none⟩) (by show w.heap.size ≤ g; omega) (.int .i64 ah))
  clear gf hrows2 gX HRW
  go_upto_region 5 with fail
  generalize (u5.setCell ⟨g, v.toNat * 2, none⟩ (.int .i64 al)).setCell ⟨g, v.toNat * 2 + 1, none⟩ (.int .i64 ah) = u6 at HR6 HE6 HC6 HK6 ⊢
  clear w0 w1 gf0 gf1 x1 i0 i1
  have y0 := (unhide HE6).1
  have y1 := (unhide HE6).2.1
  have y2 := (unhide HE6).2.2.1
  have r0 := (unhide HC6).1
  have r1 := (unhide HC6).2.1
  have r2 := (unhide HC6).2.2.1
  have f0 := (unhide HC6).2.2.2 0
  have f1 := (unhide HC6).2.2.2 1
  have f2 := (unhide HC6).2.2.2 2
  go_wp2
  have ex : setX vs fs rs true xs ys v al ah = xs.set v.toNat (al, ah) := if_pos (unhide HOK)
  have ey : setY vs fs rs true xs ys v al ah = ys := if_pos (unhide HOK)
  have hgl : w.heap.size + 3 < u3.heap.size := z3
  rw [ex, ey, unhide HOK]
  exact bodyPost_ret (v := .agg #[.bool true, .slice (some ⟨g, 0, none⟩) xs.length ca, .slice ob ys.length cb]) (by simp [results, Tryd.results19, go_sem, r0, r1, r2]) rfl ⟨some ⟨g, 0, none⟩, ca, ob, cb, by rw [List.length_set], ((((unhide HR6).set (by omega)).set (by omega)).set (by omega)).down (by omega), ((((unhide HK6).setCell (by first | exact Nat.le_add_right _ _ | (simp; done) | (simp; omega)) _).setCell (by first | exact Nat.le_add_right _ _ | (simp; done) | (simp; omega)) _).setCell (by first | exact Nat.le_add_right _ _ | (simp; done) | (simp; omega)) _)⟩
end Go.Proofs.YthpnbmdmkmkicaaDoor
