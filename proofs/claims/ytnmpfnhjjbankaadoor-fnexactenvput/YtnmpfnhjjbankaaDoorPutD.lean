/- What is put into an array: what EnvPut answers; the program's EnvPut. -/
import Derived.Test.YtnmpfnhjjbankaaDoorPutC
namespace Go.Proofs.YtnmpfnhjjbankaaDoor
open Go.RowKit
set_option linter.unusedSimpArgs false
set_option linter.unusedVariables false

/-- An interval in a block of the call's own. -/
def CJ (u : World) (b : Nat) (x y : Int) : Prop := u.cell? ⟨b, 0, none⟩ = some (.int .i64 x) ∧ u.cell? ⟨b, 1, none⟩ = some (.int .i64 y) ∧ (∀ o, u.frozen? ⟨b, o, none⟩ = false) ∧ b < u.heap.size
theorem CJ.new (w : World) (x y : Int) (t : TypeId) : CJ (w.alloc (Obj.cells #[.int .i64 x, .int .i64 y] t)) w.heap.size x y :=
  ⟨by simp [go_sem], by simp [go_sem], fun o => by simp [go_sem], by simp⟩
theorem CJ.call {u v : World} {b : Nat} {x y : Int} (h : CJ u b x y) (hb : Below u.heap.size u v) : CJ v b x y :=
  ⟨(hb.cell (by exact h.2.2.2)).trans h.1, (hb.cell (by exact h.2.2.2)).trans h.2.1, fun o => (hb.frozen (by exact h.2.2.2)).trans (h.2.2.1 o), Nat.lt_of_lt_of_le h.2.2.2 hb.size⟩
theorem CJ.alloc {u : World} {b : Nat} {x y : Int} (h : CJ u b x y) (o : Obj) : CJ (u.alloc o) b x y := h.call ((Below.refl _ u).alloc (Nat.le_refl _) o)
theorem CJ.stored {u : World} {b : Nat} {x y : Int} (h : CJ u b x y) (p q : Int) : CJ ((u.setCell ⟨b, 0, none⟩ (.int .i64 p)).setCell ⟨b, 1, none⟩ (.int .i64 q)) b p q :=
  ⟨by simp [go_sem, h.1, h.2.1], by simp [go_sem, h.1, h.2.1], fun o => by simp [World.frozen?_setCell, h.2.2.1 o], by simpa [World.setCell] using h.2.2.2⟩
/-- A declaration, bounds, two intervals and the answer, each in a block. -/
def Q6 (w0 : World) (x0 y0 z0 x1 y1 z1 : Value) (pl ph al ah : Int) (u : World) : Prop := C3 u w0.heap.size x0 y0 z0 ∧ C3 u (w0.heap.size + 1) x1 y1 z1 ∧ CJ u (w0.heap.size + 2) pl ph ∧ CJ u (w0.heap.size + 3) al ah ∧ C3 u (w0.heap.size + 4) (.bool false) (.slice none 0 0) (.slice none 0 0) ∧ Below w0.heap.size w0 u
theorem Q6.call {w0 u v : World} {x0 y0 z0 x1 y1 z1 : Value} {pl ph al ah : Int} (h : Q6 w0 x0 y0 z0 x1 y1 z1 pl ph al ah u) (hb : Below u.heap.size u v) : Q6 w0 x0 y0 z0 x1 y1 z1 pl ph al ah v :=
  ⟨h.1.call hb, h.2.1.call hb, h.2.2.1.call hb, h.2.2.2.1.call hb, h.2.2.2.2.1.call hb, h.2.2.2.2.2.trans (hb.mono h.2.2.2.2.2.size)⟩
theorem Q6.bel {w0 u : World} {x0 y0 z0 x1 y1 z1 : Value} {pl ph al ah : Int} (h : Q6 w0 x0 y0 z0 x1 y1 z1 pl ph al ah u) : Below w0.heap.size w0 u := h.2.2.2.2.2
theorem Q6.new (w : World) (x0 y0 z0 x1 y1 z1 : Value) (pl ph al ah : Int) (t0 t1 t2 t3 t4 : TypeId) : Q6 w x0 y0 z0 x1 y1 z1 pl ph al ah (((((w.alloc (Obj.cells #[x0, y0, z0] t0)).alloc (Obj.cells #[x1, y1, z1] t1)).alloc (Obj.cells #[.int .i64 pl, .int .i64 ph] t2)).alloc (Obj.cells #[.int .i64 al, .int .i64 ah] t3)).alloc (Obj.cells #[.bool false, .slice none 0 0, .slice none 0 0] t4)) := by
  have T0 := ((((C3.new w x0 y0 z0 t0).alloc (Obj.cells #[x1, y1, z1] t1)).alloc (Obj.cells #[.int .i64 pl, .int .i64 ph] t2)).alloc (Obj.cells #[.int .i64 al, .int .i64 ah] t3)).alloc (Obj.cells #[.bool false, .slice none 0 0, .slice none 0 0] t4)
  have T1 := (((C3.new (w.alloc (Obj.cells #[x0, y0, z0] t0)) x1 y1 z1 t1).alloc (Obj.cells #[.int .i64 pl, .int .i64 ph] t2)).alloc (Obj.cells #[.int .i64 al, .int .i64 ah] t3)).alloc (Obj.cells #[.bool false, .slice none 0 0, .slice none 0 0] t4)
  have T2 := ((CJ.new ((w.alloc (Obj.cells #[x0, y0, z0] t0)).alloc (Obj.cells #[x1, y1, z1] t1)) pl ph t2).alloc (Obj.cells #[.int .i64 al, .int .i64 ah] t3)).alloc (Obj.cells #[.bool false, .slice none 0 0, .slice none 0 0] t4)
  have T3 := (CJ.new (((w.alloc (Obj.cells #[x0, y0, z0] t0)).alloc (Obj.cells #[x1, y1, z1] t1)).alloc (Obj.cells #[.int .i64 pl, .int .i64 ph] t2)) al ah t3).alloc (Obj.cells #[.bool false, .slice none 0 0, .slice none 0 0] t4)
  have T4 := C3.new ((((w.alloc (Obj.cells #[x0, y0, z0] t0)).alloc (Obj.cells #[x1, y1, z1] t1)).alloc (Obj.cells #[.int .i64 pl, .int .i64 ph] t2)).alloc (Obj.cells #[.int .i64 al, .int .i64 ah] t3)) (.bool false) (.slice none 0 0) (.slice none 0 0) t4
  rw [show (w.alloc (Obj.cells #[x0, y0, z0] t0)).heap.size = w.heap.size + 1 by simp] at T1
  rw [show ((w.alloc (Obj.cells #[x0, y0, z0] t0)).alloc (Obj.cells #[x1, y1, z1] t1)).heap.size = w.heap.size + 2 by simp] at T2
  rw [show (((w.alloc (Obj.cells #[x0, y0, z0] t0)).alloc (Obj.cells #[x1, y1, z1] t1)).alloc (Obj.cells #[.int .i64 pl, .int .i64 ph] t2)).heap.size = w.heap.size + 3 by simp] at T3
  rw [show ((((w.alloc (Obj.cells #[x0, y0, z0] t0)).alloc (Obj.cells #[x1, y1, z1] t1)).alloc (Obj.cells #[.int .i64 pl, .int .i64 ph] t2)).alloc (Obj.cells #[.int .i64 al, .int .i64 ah] t3)).heap.size = w.heap.size + 4 by simp] at T4
  exact ⟨T0, T1, T2, T3, T4, (((((Below.refl _ _).alloc (Nat.le_refl _) _).alloc (by simp) _).alloc (by simp; omega) _).alloc (by simp; omega) _).alloc (by simp; omega) _⟩
/-- What is put is right. -/
def putOk (vs fs : List ByteArray) (rs : List (ByteArray × Int)) (li : Bool) (xs ys : List (Int × Int)) (v pl ph al ah : Int) : Bool := envB vs fs rs li xs ys && (li && (decide (0 ≤ v ∧ v < rs.length) && bothB pl ph al ah))
/-- How many numbers the array has. -/
def sizeAt (rs : List (ByteArray × Int)) (v : Int) : Int := ((rs[v.toNat]?).map (·.2)).getD 1
def putL (vs fs : List ByteArray) (rs : List (ByteArray × Int)) (li : Bool) (xs ys : List (Int × Int)) (v pl ph al ah : Int) : Bool := putOk vs fs rs li xs ys v pl ph al ah && plS (sizeAt rs v) pl ph
def putA (vs fs : List ByteArray) (rs : List (ByteArray × Int)) (li : Bool) (xs ys : List (Int × Int)) (v pl ph al ah : Int) : Int := if putOk vs fs rs li xs ys v pl ph al ah = true then plA (sizeAt rs v) pl ph else 0
/-- What the array has then. -/
def putV (s : Int) (p : Int × Int) (al ah : Int) : Int × Int := if s = 1 then (al, ah) else (mn p.1 al, mx p.2 ah)
def putX (vs fs : List ByteArray) (rs : List (ByteArray × Int)) (li : Bool) (xs ys : List (Int × Int)) (v pl ph al ah : Int) : List (Int × Int) := if putL vs fs rs li xs ys v pl ph al ah = true then xs else []
def putY (vs fs : List ByteArray) (rs : List (ByteArray × Int)) (li : Bool) (xs ys : List (Int × Int)) (v pl ph al ah : Int) : List (Int × Int) := if putL vs fs rs li xs ys v pl ph al ah = true then ys.set v.toNat (putV (sizeAt rs v) ((ys[v.toNat]?).getD (0, 0)) al ah) else []
theorem putX_len (vs fs : List ByteArray) (rs : List (ByteArray × Int)) (li : Bool) (xs ys : List (Int × Int)) (v pl ph al ah : Int) : (putX vs fs rs li xs ys v pl ph al ah).length ≤ xs.length := by unfold putX; split <;> simp
theorem putY_len (vs fs : List ByteArray) (rs : List (ByteArray × Int)) (li : Bool) (xs ys : List (Int × Int)) (v pl ph al ah : Int) : (putY vs fs rs li xs ys v pl ph al ah).length ≤ ys.length := by unfold putY; split <;> simp
/-- What is not right. -/
theorem put_no {vs fs : List ByteArray} {rs : List (ByteArray × Int)} {li : Bool} {xs ys : List (Int × Int)} {v pl ph al ah : Int} (h : putOk vs fs rs li xs ys v pl ph al ah = false) : putL vs fs rs li xs ys v pl ph al ah = false ∧ putX vs fs rs li xs ys v pl ph al ah = [] ∧ putY vs fs rs li xs ys v pl ph al ah = [] ∧ putA vs fs rs li xs ys v pl ph al ah = 0 := by
  have e : putL vs fs rs li xs ys v pl ph al ah = false := by unfold putL; rw [h]; rfl
  refine ⟨e, ?_, ?_, ?_⟩
  · unfold putX; rw [e]; rfl
  · unfold putY; rw [e]; rfl
  · unfold putA; rw [h]; rfl
/-- What is right, and no place. -/
theorem put_none {vs fs : List ByteArray} {rs : List (ByteArray × Int)} {li : Bool} {xs ys : List (Int × Int)} {v pl ph al ah s : Int} (h : putOk vs fs rs li xs ys v pl ph al ah = true) (hs : sizeAt rs v = s) (hp : plS s pl ph = false) : putL vs fs rs li xs ys v pl ph al ah = false ∧ putX vs fs rs li xs ys v pl ph al ah = [] ∧ putY vs fs rs li xs ys v pl ph al ah = [] ∧ putA vs fs rs li xs ys v pl ph al ah = plA s pl ph := by
  have e : putL vs fs rs li xs ys v pl ph al ah = false := by unfold putL; rw [h, hs, hp]; rfl
  refine ⟨e, ?_, ?_, ?_⟩
  · unfold putX; rw [e]; rfl
  · unfold putY; rw [e]; rfl
  · unfold putA; rw [h, hs]; rfl
/-- What is right, and a place. -/
theorem put_some {vs fs : List ByteArray} {rs : List (ByteArray × Int)} {li : Bool} {xs ys : List (Int × Int)} {v pl ph al ah s : Int} {p : Int × Int} (h : putOk vs fs rs li xs ys v pl ph al ah = true) (hs : sizeAt rs v = s) (hp : plS s pl ph = true) (hy : ys[v.toNat]? = some p) : putL vs fs rs li xs ys v pl ph al ah = true ∧ putX vs fs rs li xs ys v pl ph al ah = xs ∧ putY vs fs rs li xs ys v pl ph al ah = ys.set v.toNat (putV s p al ah) ∧ putA vs fs rs li xs ys v pl ph al ah = plA s pl ph := by
  have e : putL vs fs rs li xs ys v pl ph al ah = true := by unfold putL; rw [h, hs, hp]; rfl
  refine ⟨e, ?_, ?_, ?_⟩
  · unfold putX; rw [e]; rfl
  · unfold putY; rw [e, hs, hy]; rfl
  · unfold putA; rw [h, hs]; rfl
/-- What a right declaration and right bounds say of an array. -/
theorem put_at {vs fs : List ByteArray} {rs : List (ByteArray × Int)} {xs ys : List (Int × Int)} {v : Int} (h : envB vs fs rs true xs ys = true) (hv : 0 ≤ v ∧ v < (rs.length : Int)) : ∃ (n : ByteArray) (s : Int) (p : Int × Int), rs[v.toNat]? = some (n, s) ∧ sizeAt rs v = s ∧ (1 ≤ s ∧ s ≤ 16) ∧ ys[v.toNat]? = some p ∧ p.1 ≤ p.2 := by
  have hl := env_len h rfl
  unfold envB at h
  rw [Bool.and_eq_true] at h
  have h1 := of_decide_eq_true h.1
  have h2 := of_decide_eq_true h.2
  have hk : v.toNat < rs.length := by omega
  have hy : v.toNat < ys.length := by omega
  have hr : rs[v.toNat]? = some (rs[v.toNat].1, rs[v.toNat].2) := List.getElem?_eq_getElem hk
  refine ⟨rs[v.toNat].1, rs[v.toNat].2, ys[v.toNat], hr, ?_, h1.2.2.2.1 v.toNat hk, List.getElem?_eq_getElem hy, ?_⟩
  · unfold sizeAt; rw [hr]; rfl
  · rcases h2 with ⟨h3, _⟩ | ⟨_, _, _, h4⟩
    · cases h3
    · have := h4 (xs.length + v.toNat) (by simp; omega)
      rw [List.getElem_append_right (by omega)] at this
      simpa using this
theorem bel_dP {u v : World} (h : Below u.drew.heap.size u.drew v) : Below u.heap.size u v := ((Below.refl _ u).drew).trans h
set_option maxRecDepth 20000 in
set_option maxHeartbeats 8000000 in
theorem iEnvPut_c (a1 a2 a3 c1 c2 c3 : Nat) (vs fs : List ByteArray) (rs : List (ByteArray × Int)) (li : Bool) (e1 e2 d1 d2 : Nat) (xs ys : List (Int × Int)) (v pl ph al ah : Int) (w : World) (hw : KW w) (hv : Strs w (some ⟨a1, 0, none⟩) vs) (hf : Strs w (some ⟨a2, 0, none⟩) fs) (hr : Arrs w (some ⟨a3, 0, none⟩) rs)
    (hz : ∀ x ∈ namesOf vs fs rs, x.size ≤ 1048576) (hx : Ivs w (some ⟨e1, 0, none⟩) xs) (hy : Ivs w (some ⟨e2, 0, none⟩) ys) :
    Calls Tryd.prog 24 #[.agg #[.slice (some ⟨a1, 0, none⟩) vs.length c1, .slice (some ⟨a2, 0, none⟩) fs.length c2, .slice (some ⟨a3, 0, none⟩) rs.length c3], .agg #[.bool li, .slice (some ⟨e1, 0, none⟩) xs.length d1, .slice (some ⟨e2, 0, none⟩) ys.length d2], .int .i64 v, .agg #[.int .i64 pl, .int .i64 ph], .agg #[.int .i64 al, .int .i64 ah]] w fun e w' => ∃ oa ca ob cb, e = .returned (.tuple #[.agg #[.bool (putL vs fs rs li xs ys v pl ph al ah), .slice oa (putX vs fs rs li xs ys v pl ph al ah).length ca, .slice ob (putY vs fs rs li xs ys v pl ph al ah).length cb], .int .i64 (putA vs fs rs li xs ys v pl ph al ah)]) ∧ RowsE w' w.heap.size oa ca ob cb (putX vs fs rs li xs ys v pl ph al ah) (putY vs fs rs li xs ys v pl ph al ah) ∧ Below w.heap.size w w' := by
  have HV := hide hv
  have HF := hide hf
  have HR := hide hr
  have HZ := hide hz
  have HX := hide hx
  have HY := hide hy
  have HW := hide hw
  have HB := hide (Q6.new w (.slice (some ⟨a1, 0, none⟩) vs.length c1) (.slice (some ⟨a2, 0, none⟩) fs.length c2) (.slice (some ⟨a3, 0, none⟩) rs.length c3) (.bool li) (.slice (some ⟨e1, 0, none⟩) xs.length d1) (.slice (some ⟨e2, 0, none⟩) ys.length d2) pl ph al ah 35 51 60 60 51)
  clear hv hf hr hz hx hy hw
  go_enter Tryd.func24, Tryd.ntmps24
  go_wp2_with fail
  generalize ((((w.alloc (Obj.cells #[.slice (some ⟨a1, 0, none⟩) vs.length c1, .slice (some ⟨a2, 0, none⟩) fs.length c2, .slice (some ⟨a3, 0, none⟩) rs.length c3] 35)).alloc (Obj.cells #[.bool li, .slice (some ⟨e1, 0, none⟩) xs.length d1, .slice (some ⟨e2, 0, none⟩) ys.length d2] 51)).alloc (Obj.cells #[.int .i64 pl, .int .i64 ph] 60)).alloc (Obj.cells #[.int .i64 al, .int .i64 ah] 60)).alloc (Obj.cells #[.bool false, .slice none 0 0, .slice none 0 0] 51) = u at HB ⊢
  refine (iEnvOk_c a1 a2 a3 c1 c2 c3 vs fs rs li e1 e2 d1 d2 xs ys _ ((unhide HW).call (unhide HB).bel) ((unhide HV).call (unhide HB).bel) ((unhide HF).call (unhide HB).bel) ((unhide HR).call (unhide HB).bel) (unhide HZ) ((unhide HX).call (unhide HB).bel) ((unhide HY).call (unhide HB).bel)).mono ?_
  rintro e u1 ⟨rfl, kb⟩
  have HB := hide ((unhide HB).call kb)
  clear kb
  have p0 := (unhide HB).1.1
  have p1 := (unhide HB).1.2.1
  have p2 := (unhide HB).1.2.2.1
  have q0 := (unhide HB).2.1.1
  have q1 := (unhide HB).2.1.2.1
  have q2 := (unhide HB).2.1.2.2.1
  have i0 := (unhide HB).2.2.1.1
  have i1 := (unhide HB).2.2.1.2.1
  have j0 := (unhide HB).2.2.2.1.1
  have j1 := (unhide HB).2.2.2.1.2.1
  have r0 := (unhide HB).2.2.2.2.1.1
  have r1 := (unhide HB).2.2.2.2.1.2.1
  have r2 := (unhide HB).2.2.2.2.1.2.2.1
  have f0 := (unhide HB).2.2.2.2.1.2.2.2 0
  have f1 := (unhide HB).2.2.2.2.1.2.2.2 1
  have f2 := (unhide HB).2.2.2.2.1.2.2.2 2
  cases h1 : envB vs fs rs li xs ys
  · have HN := hide (put_no (show putOk vs fs rs li xs ys v pl ph al ah = false by unfold putOk; rw [h1]; rfl))
    clear h1
    go_wp2
    exact bodyPost_ret (v := .tuple #[.agg #[.bool false, .slice none 0 0, .slice none 0 0], .int .i64 0]) (by simp [results, Tryd.results24, go_sem, r0, r1, r2]) rfl ⟨none, 0, none, 0, by rw [(unhide HN).1, (unhide HN).2.1, (unhide HN).2.2.1, (unhide HN).2.2.2]; rfl, by rw [(unhide HN).2.1, (unhide HN).2.2.1]; exact rows_nil _ _, ((((unhide HB).bel.setCell (by first | exact Nat.le_add_right _ _ | (simp; done) | (simp; omega)) _).setCell (by first | exact Nat.le_add_right _ _ | (simp; done) | (simp; omega)) _).setCell (by first | exact Nat.le_add_right _ _ | (simp; done) | (simp; omega)) _)⟩
  have H1 := hide h1
  clear h1
  cases li
  · have HN := hide (put_no (show putOk vs fs rs false xs ys v pl ph al ah = false by unfold putOk; simp))
    go_wp2
    exact bodyPost_ret (v := .tuple #[.agg #[.bool false, .slice none 0 0, .slice none 0 0], .int .i64 0]) (by simp [results, Tryd.results24, go_sem, r0, r1, r2]) rfl ⟨none, 0, none, 0, by rw [(unhide HN).1, (unhide HN).2.1, (unhide HN).2.2.1, (unhide HN).2.2.2]; rfl, by rw [(unhide HN).2.1, (unhide HN).2.2.1]; exact rows_nil _ _, ((((unhide HB).bel.setCell (by first | exact Nat.le_add_right _ _ | (simp; done) | (simp; omega)) _).setCell (by first | exact Nat.le_add_right _ _ | (simp; done) | (simp; omega)) _).setCell (by first | exact Nat.le_add_right _ _ | (simp; done) | (simp; omega)) _)⟩
  have HL := hide (env_len (unhide H1) rfl)
  have lv : (rs.length : Int) ≤ 2 := by have := unhide HL; omega
  go_wp2_with fail
  refine (isBelow_c _ _ _).mono ?_
  rintro e u2 ⟨rfl, rfl⟩
  by_cases h2 : 0 ≤ v ∧ v < (rs.length : Int)
  case neg =>
    rw [decide_eq_false h2]
    have HN := hide (put_no (show putOk vs fs rs true xs ys v pl ph al ah = false by unfold putOk; rw [decide_eq_false h2]; simp))
    clear h2
    go_wp2
    exact bodyPost_ret (v := .tuple #[.agg #[.bool false, .slice none 0 0, .slice none 0 0], .int .i64 0]) (by simp [results, Tryd.results24, go_sem, r0, r1, r2]) rfl ⟨none, 0, none, 0, by rw [(unhide HN).1, (unhide HN).2.1, (unhide HN).2.2.1, (unhide HN).2.2.2]; rfl, by rw [(unhide HN).2.1, (unhide HN).2.2.1]; exact rows_nil _ _, ((((unhide HB).bel.setCell (by first | exact Nat.le_add_right _ _ | (simp; done) | (simp; omega)) _).setCell (by first | exact Nat.le_add_right _ _ | (simp; done) | (simp; omega)) _).setCell (by first | exact Nat.le_add_right _ _ | (simp; done) | (simp; omega)) _)⟩
  rw [decide_eq_true h2]
  go_wp2_with fail
  refine (bothOk_c _ _ _ _ _).mono ?_
  rintro e u3 ⟨rfl, kb⟩
  have HB := hide ((unhide HB).call kb)
  clear kb p0 p1 p2 q0 q1 q2 i0 i1 j0 j1 r0 r1 r2 f0 f1 f2
  have p0 := (unhide HB).1.1
  have p1 := (unhide HB).1.2.1
  have p2 := (unhide HB).1.2.2.1
  have q0 := (unhide HB).2.1.1
  have q1 := (unhide HB).2.1.2.1
  have q2 := (unhide HB).2.1.2.2.1
  have i0 := (unhide HB).2.2.1.1
  have i1 := (unhide HB).2.2.1.2.1
  have j0 := (unhide HB).2.2.2.1.1
  have j1 := (unhide HB).2.2.2.1.2.1
  have r0 := (unhide HB).2.2.2.2.1.1
  have r1 := (unhide HB).2.2.2.2.1.2.1
  have r2 := (unhide HB).2.2.2.2.1.2.2.1
  have f0 := (unhide HB).2.2.2.2.1.2.2.2 0
  have f1 := (unhide HB).2.2.2.2.1.2.2.2 1
  have f2 := (unhide HB).2.2.2.2.1.2.2.2 2
  cases h3 : bothB pl ph al ah
  · have HN := hide (put_no (show putOk vs fs rs true xs ys v pl ph al ah = false by unfold putOk; rw [h3]; simp))
    clear h3
    go_wp2
    exact bodyPost_ret (v := .tuple #[.agg #[.bool false, .slice none 0 0, .slice none 0 0], .int .i64 0]) (by simp [results, Tryd.results24, go_sem, r0, r1, r2]) rfl ⟨none, 0, none, 0, by rw [(unhide HN).1, (unhide HN).2.1, (unhide HN).2.2.1, (unhide HN).2.2.2]; rfl, by rw [(unhide HN).2.1, (unhide HN).2.2.1]; exact rows_nil _ _, ((((unhide HB).bel.setCell (by first | exact Nat.le_add_right _ _ | (simp; done) | (simp; omega)) _).setCell (by first | exact Nat.le_add_right _ _ | (simp; done) | (simp; omega)) _).setCell (by first | exact Nat.le_add_right _ _ | (simp; done) | (simp; omega)) _)⟩
  have HOK := hide (show putOk vs fs rs true xs ys v pl ph al ah = true by unfold putOk; rw [unhide H1, decide_eq_true h2, h3]; rfl)
  have HAH := hide (show al ≤ ah from (of_decide_eq_true h3).2)
  clear h3
  obtain ⟨nm, s, p, hrs, hsz, hs16, hyp, hpp⟩ := put_at (unhide H1) h2
  have HSZ := hide hsz
  have HYP := hide hyp
  have HPP := hide hpp
  have hc : u3.cell? ⟨a3, v.toNat * 2 + 1, none⟩ = some (.int .i64 s) := by
    have hk : v.toNat < rs.length := by have := h2; omega
    rcases ((unhide HR).call (unhide HB).bel).2 with h0 | ⟨cb, co, he, hcell⟩
    · omega
    · obtain ⟨rfl, rfl⟩ : a3 = cb ∧ 0 = co := by injection he with q; injection q with q1 q2; exact ⟨q1, q2⟩
      have := (hcell v.toNat hk).2
      rw [List.getElem?_eq_getElem hk] at hrs
      rw [Nat.zero_add, Option.some.inj hrs] at this
      exact this
  clear hsz hyp hpp hrs
  have hl0 := h2.1
  have hl1 := h2.2
  go_wp2_with fail
  refine (placesIn_c s pl ph hs16 _).mono ?_
  rintro e u4 ⟨rfl, kb⟩
  have HB := hide ((unhide HB).call kb)
  clear kb hc p0 p1 p2 q0 q1 q2 i0 i1 j0 j1 r0 r1 r2 f0 f1 f2
  have p0 := (unhide HB).1.1
  have p1 := (unhide HB).1.2.1
  have p2 := (unhide HB).1.2.2.1
  have q0 := (unhide HB).2.1.1
  have q1 := (unhide HB).2.1.2.1
  have q2 := (unhide HB).2.1.2.2.1
  have i0 := (unhide HB).2.2.1.1
  have i1 := (unhide HB).2.2.1.2.1
  have j0 := (unhide HB).2.2.2.1.1
  have j1 := (unhide HB).2.2.2.1.2.1
  have r0 := (unhide HB).2.2.2.2.1.1
  have r1 := (unhide HB).2.2.2.2.1.2.1
  have r2 := (unhide HB).2.2.2.2.1.2.2.1
  have f0 := (unhide HB).2.2.2.2.1.2.2.2 0
  have f1 := (unhide HB).2.2.2.2.1.2.2.2 1
  have f2 := (unhide HB).2.2.2.2.1.2.2.2 2
  cases h4 : plS s pl ph
  · have HN := hide (put_none (unhide HOK) (unhide HSZ) h4)
    clear h4
    generalize plA s pl ph = A at HN ⊢
    go_wp2
    exact bodyPost_ret (v := .tuple #[.agg #[.bool false, .slice none 0 0, .slice none 0 0], .int .i64 A]) (by simp [results, Tryd.results24, go_sem, r0, r1, r2]) rfl ⟨none, 0, none, 0, by rw [(unhide HN).1, (unhide HN).2.1, (unhide HN).2.2.1, (unhide HN).2.2.2]; rfl, by rw [(unhide HN).2.1, (unhide HN).2.2.1]; exact rows_nil _ _, ((((unhide HB).bel.setCell (by first | exact Nat.le_add_right _ _ | (simp; done) | (simp; omega)) _).setCell (by first | exact Nat.le_add_right _ _ | (simp; done) | (simp; omega)) _).setCell (by first | exact Nat.le_add_right _ _ | (simp; done) | (simp; omega)) _)⟩
  have HN := hide (put_some (unhide HOK) (unhide HSZ) h4 (unhide HYP))
  clear h4
  generalize plA s pl ph = A at HN ⊢
  go_wp2_with fail
  refine (copied_c (w.heap.size + 1) true e1 e2 d1 d2 xs ys _ (unhide HB).2.1 ((unhide HX).call (unhide HB).bel) ((unhide HY).call (unhide HB).bel) (by have := unhide HL; omega)).mono ?_
  rintro e u5 ⟨oa, ca, ob, cb, rfl, hrows, kb⟩
  have z3 : w.heap.size + 4 < u4.heap.size := (unhide HB).2.2.2.2.1.lt
  have ka := (Below.refl _ u5).alloc (Nat.le_refl _) (Obj.cells #[.bool true, .slice oa xs.length ca, .slice ob ys.length cb] 51)
  have HB := hide (((unhide HB).call kb).call ka)
  have HRW := hide (hrows.call ka)
  have HE := hide (C3.new u5 (.bool true) (.slice oa xs.length ca) (.slice ob ys.length cb) 51)
  have hly : v.toNat < ys.length := by have := unhide HL; omega
  have hly' : v < (ys.length : Int) := by have := unhide HL; omega
  obtain ⟨X, hX⟩ : ∃ X, X = u5.heap.size := ⟨_, rfl⟩
  obtain ⟨u6, hz⟩ : ∃ z, z = u5.alloc (Obj.cells #[.bool true, .slice oa xs.length ca, .slice ob ys.length cb] 51) := ⟨_, rfl⟩
  have zX : u4.heap.size ≤ X := by rw [hX]; exact kb.size
  have gX : ∀ g, ob = some ⟨g, 0, none⟩ → g < X := fun g e => by
    have := (hrows.2.1.lt g (by rw [e]; rfl)).2
    omega
  rw [← hX, ← hz] at HE
  rw [← hz] at HB HRW
  have hXZ := hide (And.intro hX hz)
  clear hX hz ka kb hrows p0 p1 p2 q0 q1 q2 i0 i1 j0 j1 r0 r1 r2 f0 f1 f2
  obtain ⟨g, hg, g1, g2, ⟨t0, t1⟩, gf, _⟩ := (unhide HRW).writeY hly (0, 0)
  have gX' := gX g hg
  subst hg
  have hpv : ys[v.toNat] = p := by have := unhide HYP; rw [List.getElem?_eq_getElem hly] at this; exact Option.some.inj this
  rw [hpv] at t0 t1
  clear hpv gX gf
  go_upto_region 8 with fail
  rw [← (unhide hXZ).1, ← (unhide hXZ).2]
  clear hXZ
  have HC := hide (unhide HB).2.2.2.2.1
  have HK := hide (unhide HB).bel
  have HJ := hide (unhide HB).2.2.2.1
  clear HB
  obtain ⟨p1, p2⟩ := p
  dsimp only at t0 t1
  by_cases hs1 : s = 1
  · subst hs1
    have HPV := hide (show putV 1 (p1, p2) al ah = (al, ah) from if_pos rfl)
    obtain ⟨g', hg', _, _, _, gf, hrows2⟩ := (unhide HRW).writeY hly (al, ah)
    obtain rfl : g = g' := by injection hg' with q; injection q
    have gf0 := gf (v.toNat * 2)
    have gf1 := gf (v.toNat * 2 + 1)
    have HR7 := hide hrows2
    have HE7 := hide (((unhide HE).other (c := g) (o := v.toNat * 2) (v := .int .i64 al) (by omega)).other (c := g) (o := v.toNat * 2 + 1) (v := .int .i64 ah) (by omega))
    have HC7 := hide (((unhide HC).other (c := g) (o := v.toNat * 2) (v := .int .i64 al) (by omega)).other (c := g) (o := v.toNat * 2 + 1) (v := .int .i64 ah) (by omega))
    have HK7 := hide (((unhide HK).setCell (p := ⟨g, v.toNat * 2, none⟩) (by show w.heap.size ≤ g; omega) (.int .i64 al)).setCell (p := ⟨g, v.toNat * 2 + 1, none⟩) (by show w.heap.size ≤ g; omega) (.int .i64 ah))
    have b2 := (unhide HE).2.2.1
    have j0 := (unhide HJ).1
    have j1 := (unhide HJ).2.1
    clear gf hrows2
    go_upto_region 11 with fail
    clear gf0 gf1 b2 j0 j1
    generalize (u6.setCell ⟨g, v.toNat * 2, none⟩ (.int .i64 al)).setCell ⟨g, v.toNat * 2 + 1, none⟩ (.int .i64 ah) = u7 at HR7 HE7 HC7 HK7 ⊢
    have y0 := (unhide HE7).1
    have y1 := (unhide HE7).2.1
    have y2 := (unhide HE7).2.2.1
    have r0 := (unhide HC7).1
    have r1 := (unhide HC7).2.1
    have r2 := (unhide HC7).2.2.1
    have f0 := (unhide HC7).2.2.2 0
    have f1 := (unhide HC7).2.2.2 1
    have f2 := (unhide HC7).2.2.2 2
    go_wp2
    exact bodyPost_ret (v := .tuple #[.agg #[.bool true, .slice oa xs.length ca, .slice (some ⟨g, 0, none⟩) ys.length cb], .int .i64 A]) (by simp [results, Tryd.results24, go_sem, r0, r1, r2]) rfl ⟨oa, ca, some ⟨g, 0, none⟩, cb, by rw [(unhide HN).1, (unhide HN).2.1, (unhide HN).2.2.1, (unhide HN).2.2.2, List.length_set], by rw [(unhide HN).2.1, (unhide HN).2.2.1, unhide HPV]; exact ((((unhide HR7).set (by omega)).set (by omega)).set (by omega)).down (by omega), ((((unhide HK7).setCell (by first | exact Nat.le_add_right _ _ | (simp; done) | (simp; omega)) _).setCell (by first | exact Nat.le_add_right _ _ | (simp; done) | (simp; omega)) _).setCell (by first | exact Nat.le_add_right _ _ | (simp; done) | (simp; omega)) _)⟩
  · have hgt : 1 < s := by omega
    have HPV := hide (show putV s (p1, p2) al ah = (joinL p1 p2 al ah, joinH p1 p2 al ah) by unfold putV joinL joinH; rw [if_neg hs1, if_pos ⟨unhide HPP, unhide HAH⟩, if_pos ⟨unhide HPP, unhide HAH⟩])
    have b2 := (unhide HE).2.2.1
    have j0 := (unhide HJ).1
    have j1 := (unhide HJ).2.1
    go_upto_region 9 with fail
    go_region_with (go_at_call 68; refine (IvJoin_c _ _ _ _ _).mono ?_; rintro e w1 ⟨rfl, hb⟩; have HE := hide ((unhide HE).call (bel_dP hb)); have HRW := hide ((unhide HRW).call (bel_dP hb)); have HC := hide ((unhide HC).call (bel_dP hb)); have HK := hide ((unhide HK).trans ((bel_dP hb).mono (unhide HK).size)); have HJ := hide ((unhide HJ).call (bel_dP hb)); have k0 := (unhide HJ).1; have k1 := (unhide HJ).2.1; have k2 := (unhide HJ).2.2.1 0; have k3 := (unhide HJ).2.2.1 1; clear hb)
    all_goals
      clear b2 j0 j1 t0 t1 k0 k1 k2 k3
      have HE := hide (((unhide HE).other (c := w.heap.size + 3) (o := 0) (v := .int .i64 (joinL p1 p2 al ah)) (by omega)).other (c := w.heap.size + 3) (o := 1) (v := .int .i64 (joinH p1 p2 al ah)) (by omega))
      have HC := hide (((unhide HC).other (c := w.heap.size + 3) (o := 0) (v := .int .i64 (joinL p1 p2 al ah)) (by omega)).other (c := w.heap.size + 3) (o := 1) (v := .int .i64 (joinH p1 p2 al ah)) (by omega))
      have HRW := hide (((unhide HRW).set (b := w.heap.size + 3) (o := 0) (x := .int .i64 (joinL p1 p2 al ah)) (by omega)).set (b := w.heap.size + 3) (o := 1) (x := .int .i64 (joinH p1 p2 al ah)) (by omega))
      have HK := hide (((unhide HK).setCell (p := ⟨w.heap.size + 3, 0, none⟩) (by show w.heap.size ≤ w.heap.size + 3; omega) (.int .i64 (joinL p1 p2 al ah))).setCell (p := ⟨w.heap.size + 3, 1, none⟩) (by show w.heap.size ≤ w.heap.size + 3; omega) (.int .i64 (joinH p1 p2 al ah)))
      have HJ := hide ((unhide HJ).stored (joinL p1 p2 al ah) (joinH p1 p2 al ah))
      generalize (w1.setCell ⟨w.heap.size + 3, 0, none⟩ (.int .i64 (joinL p1 p2 al ah))).setCell ⟨w.heap.size + 3, 1, none⟩ (.int .i64 (joinH p1 p2 al ah)) = u8 at HE HC HRW HK HJ ⊢
      generalize joinL p1 p2 al ah = x at HPV HJ ⊢
      generalize joinH p1 p2 al ah = y at HPV HJ ⊢
      obtain ⟨g', hg', _, _, _, gf, hrows2⟩ := (unhide HRW).writeY hly (x, y)
      obtain rfl : g = g' := by injection hg' with q; injection q
      have gf0 := gf (v.toNat * 2)
      have gf1 := gf (v.toNat * 2 + 1)
      have HR7 := hide hrows2
      have HE7 := hide (((unhide HE).other (c := g) (o := v.toNat * 2) (v := .int .i64 x) (by omega)).other (c := g) (o := v.toNat * 2 + 1) (v := .int .i64 y) (by omega))
      have HC7 := hide (((unhide HC).other (c := g) (o := v.toNat * 2) (v := .int .i64 x) (by omega)).other (c := g) (o := v.toNat * 2 + 1) (v := .int .i64 y) (by omega))
      have HK7 := hide (((unhide HK).setCell (p := ⟨g, v.toNat * 2, none⟩) (by show w.heap.size ≤ g; omega) (.int .i64 x)).setCell (p := ⟨g, v.toNat * 2 + 1, none⟩) (by show w.heap.size ≤ g; omega) (.int .i64 y))
      have b2 := (unhide HE).2.2.1
      have j0 := (unhide HJ).1
      have j1 := (unhide HJ).2.1
      clear gf hrows2
      go_upto_region 11 with fail
      clear gf0 gf1 b2 j0 j1
      generalize (u8.setCell ⟨g, v.toNat * 2, none⟩ (.int .i64 x)).setCell ⟨g, v.toNat * 2 + 1, none⟩ (.int .i64 y) = u7 at HR7 HE7 HC7 HK7 ⊢
      have y0 := (unhide HE7).1
      have y1 := (unhide HE7).2.1
      have y2 := (unhide HE7).2.2.1
      have r0 := (unhide HC7).1
      have r1 := (unhide HC7).2.1
      have r2 := (unhide HC7).2.2.1
      have f0 := (unhide HC7).2.2.2 0
      have f1 := (unhide HC7).2.2.2 1
      have f2 := (unhide HC7).2.2.2 2
      go_wp2
      exact bodyPost_ret (v := .tuple #[.agg #[.bool true, .slice oa xs.length ca, .slice (some ⟨g, 0, none⟩) ys.length cb], .int .i64 A]) (by simp [results, Tryd.results24, go_sem, r0, r1, r2]) rfl ⟨oa, ca, some ⟨g, 0, none⟩, cb, by rw [(unhide HN).1, (unhide HN).2.1, (unhide HN).2.2.1, (unhide HN).2.2.2, List.length_set], by rw [(unhide HN).2.1, (unhide HN).2.2.1, unhide HPV]; exact ((((unhide HR7).set (by omega)).set (by omega)).set (by omega)).down (by omega), ((((unhide HK7).setCell (by first | exact Nat.le_add_right _ _ | (simp; done) | (simp; omega)) _).setCell (by first | exact Nat.le_add_right _ _ | (simp; done) | (simp; omega)) _).setCell (by first | exact Nat.le_add_right _ _ | (simp; done) | (simp; omega)) _)⟩
end Go.Proofs.YtnmpfnhjjbankaaDoor
