/- One bound within another: the functions. -/
import Derived.Test.YthldhjifnpfmiaaDoorLeqC
namespace Go.Proofs.YthldhjifnpfmiaaDoor
open Go.RowKit
set_option linter.unusedSimpArgs false
set_option linter.unusedVariables false

/-- Three structs of three cells side by side; below all is as it was. -/
def B3 (w0 : World) (b : Nat) (x0 y0 z0 x1 y1 z1 x2 y2 z2 : Value) (u : World) : Prop := C3 u b x0 y0 z0 ∧ C3 u (b + 1) x1 y1 z1 ∧ C3 u (b + 2) x2 y2 z2 ∧ Below w0.heap.size w0 u
theorem B3.call {w0 u v : World} {b : Nat} {x0 y0 z0 x1 y1 z1 x2 y2 z2 : Value} (h : B3 w0 b x0 y0 z0 x1 y1 z1 x2 y2 z2 u) (hb : Below u.heap.size u v) : B3 w0 b x0 y0 z0 x1 y1 z1 x2 y2 z2 v :=
  ⟨h.1.call hb, h.2.1.call hb, h.2.2.1.call hb, h.2.2.2.trans (hb.mono h.2.2.2.size)⟩
theorem B3.new (w : World) (x0 y0 z0 x1 y1 z1 x2 y2 z2 : Value) (t0 t1 t2 : TypeId) : B3 w w.heap.size x0 y0 z0 x1 y1 z1 x2 y2 z2 (((w.alloc (Obj.cells #[x0, y0, z0] t0)).alloc (Obj.cells #[x1, y1, z1] t1)).alloc (Obj.cells #[x2, y2, z2] t2)) := by
  have T0 := ((C3.new w x0 y0 z0 t0).alloc (Obj.cells #[x1, y1, z1] t1)).alloc (Obj.cells #[x2, y2, z2] t2)
  have T1 := (C3.new (w.alloc (Obj.cells #[x0, y0, z0] t0)) x1 y1 z1 t1).alloc (Obj.cells #[x2, y2, z2] t2)
  have T2 := C3.new ((w.alloc (Obj.cells #[x0, y0, z0] t0)).alloc (Obj.cells #[x1, y1, z1] t1)) x2 y2 z2 t2
  rw [show (w.alloc (Obj.cells #[x0, y0, z0] t0)).heap.size = w.heap.size + 1 by simp] at T1
  rw [show ((w.alloc (Obj.cells #[x0, y0, z0] t0)).alloc (Obj.cells #[x1, y1, z1] t1)).heap.size = w.heap.size + 2 by simp] at T2
  exact ⟨T0, T1, T2, (((Below.refl _ _).alloc (Nat.le_refl _) _).alloc (by simp) _).alloc (by simp; omega) _⟩
theorem env_len {vs fs : List ByteArray} {rs : List (ByteArray × Int)} {li : Bool} {xs ys : List (Int × Int)} (h : envB vs fs rs li xs ys = true) : li = true → xs.length = vs.length ∧ ys.length = rs.length ∧ vs.length ≤ 5 ∧ rs.length ≤ 2 := by
  intro hl
  subst hl
  unfold envB at h
  rw [Bool.and_eq_true] at h
  have h1 := declB_len h.1
  have h2 := of_decide_eq_true h.2
  rcases h2 with ⟨h3, _⟩ | ⟨_, h3, h4, _⟩
  · cases h3
  · exact ⟨h3, h4, h1.1, h1.2.2⟩
theorem env_lens {vs fs : List ByteArray} {rs : List (ByteArray × Int)} {li lj : Bool} {xs ys xs2 ys2 : List (Int × Int)} (h : envB vs fs rs li xs ys = true) (h2 : envB vs fs rs lj xs2 ys2 = true) : li = true → lj = true → xs.length = xs2.length ∧ ys.length = ys2.length ∧ xs.length + ys.length ≤ 7 := by
  intro a b
  have := env_len h a
  have := env_len h2 b
  omega
def leqD (vs fs : List ByteArray) (rs : List (ByteArray × Int)) (li : Bool) (xs ys : List (Int × Int)) (lj : Bool) (xs2 ys2 : List (Int × Int)) : Bool := envB vs fs rs li xs ys && (envB vs fs rs lj xs2 ys2 && leqE li lj (xs ++ ys) (xs2 ++ ys2))
set_option maxRecDepth 20000 in
set_option maxHeartbeats 4000000 in
theorem iEnvLeq_c (a1 a2 a3 c1 c2 c3 : Nat) (vs fs : List ByteArray) (rs : List (ByteArray × Int)) (li : Bool) (e1 e2 d1 d2 : Nat) (xs ys : List (Int × Int)) (lj : Bool) (e3 e4 d3 d4 : Nat) (xs2 ys2 : List (Int × Int)) (w : World) (hw : KW w) (hv : Strs w (some ⟨a1, 0, none⟩) vs) (hf : Strs w (some ⟨a2, 0, none⟩) fs) (hr : Arrs w (some ⟨a3, 0, none⟩) rs)
    (hz : ∀ x ∈ namesOf vs fs rs, x.size ≤ 1048576) (hx : Ivs w (some ⟨e1, 0, none⟩) xs) (hy : Ivs w (some ⟨e2, 0, none⟩) ys) (hx2 : Ivs w (some ⟨e3, 0, none⟩) xs2) (hy2 : Ivs w (some ⟨e4, 0, none⟩) ys2) :
    Calls Tryd.prog 45 #[.agg #[.slice (some ⟨a1, 0, none⟩) vs.length c1, .slice (some ⟨a2, 0, none⟩) fs.length c2, .slice (some ⟨a3, 0, none⟩) rs.length c3], .agg #[.bool li, .slice (some ⟨e1, 0, none⟩) xs.length d1, .slice (some ⟨e2, 0, none⟩) ys.length d2], .agg #[.bool lj, .slice (some ⟨e3, 0, none⟩) xs2.length d3, .slice (some ⟨e4, 0, none⟩) ys2.length d4]] w
    fun e w' => e = .returned (.bool (leqD vs fs rs li xs ys lj xs2 ys2)) ∧ Below w.heap.size w w' := by
  obtain ⟨r, hrr⟩ : ∃ r, leqD vs fs rs li xs ys lj xs2 ys2 = r := ⟨_, rfl⟩
  rw [hrr]
  have HRR := hide hrr
  have HV := hide hv
  have HF := hide hf
  have HR := hide hr
  have HZ := hide hz
  have HX := hide hx
  have HY := hide hy
  have HX2 := hide hx2
  have HY2 := hide hy2
  have HW := hide hw
  clear hw
  have HB := hide (B3.new w (.slice (some ⟨a1, 0, none⟩) vs.length c1) (.slice (some ⟨a2, 0, none⟩) fs.length c2) (.slice (some ⟨a3, 0, none⟩) rs.length c3) (.bool li) (.slice (some ⟨e1, 0, none⟩) xs.length d1) (.slice (some ⟨e2, 0, none⟩) ys.length d2) (.bool lj) (.slice (some ⟨e3, 0, none⟩) xs2.length d3) (.slice (some ⟨e4, 0, none⟩) ys2.length d4) 32 86 86)
  clear hrr hv hf hr hz hx hy hx2 hy2
  go_enter Tryd.func45, Tryd.ntmps45
  go_wp2_with fail
  generalize ((w.alloc (Obj.cells #[.slice (some ⟨a1, 0, none⟩) vs.length c1, .slice (some ⟨a2, 0, none⟩) fs.length c2, .slice (some ⟨a3, 0, none⟩) rs.length c3] 32)).alloc (Obj.cells #[.bool li, .slice (some ⟨e1, 0, none⟩) xs.length d1, .slice (some ⟨e2, 0, none⟩) ys.length d2] 86)).alloc (Obj.cells #[.bool lj, .slice (some ⟨e3, 0, none⟩) xs2.length d3, .slice (some ⟨e4, 0, none⟩) ys2.length d4] 86) = u at HB ⊢
  refine (iEnvOk_c a1 a2 a3 c1 c2 c3 vs fs rs li e1 e2 d1 d2 xs ys _ ((unhide HW).call (unhide HB).2.2.2) ((unhide HV).call (unhide HB).2.2.2) ((unhide HF).call (unhide HB).2.2.2) ((unhide HR).call (unhide HB).2.2.2) (unhide HZ) ((unhide HX).call (unhide HB).2.2.2) ((unhide HY).call (unhide HB).2.2.2)).mono ?_
  rintro e u1 ⟨rfl, kb⟩
  have HB := hide ((unhide HB).call kb)
  clear kb
  cases h1 : envB vs fs rs li xs ys
  · have HN := hide (show r = false by rw [← unhide HRR, leqD, h1]; rfl)
    clear h1
    go_wp2
    go_ret
    exact ⟨by rw [unhide HN]; rfl, (unhide HB).2.2.2⟩
  have H1 := hide h1
  clear h1
  have p0 := (unhide HB).1.1
  have p1 := (unhide HB).1.2.1
  have p2 := (unhide HB).1.2.2.1
  have q0 := (unhide HB).2.1.1
  have q1 := (unhide HB).2.1.2.1
  have q2 := (unhide HB).2.1.2.2.1
  have s0 := (unhide HB).2.2.1.1
  have s1 := (unhide HB).2.2.1.2.1
  have s2 := (unhide HB).2.2.1.2.2.1
  go_wp2_with fail
  refine (iEnvOk_c a1 a2 a3 c1 c2 c3 vs fs rs lj e3 e4 d3 d4 xs2 ys2 _ ((unhide HW).call (unhide HB).2.2.2) ((unhide HV).call (unhide HB).2.2.2) ((unhide HF).call (unhide HB).2.2.2) ((unhide HR).call (unhide HB).2.2.2) (unhide HZ) ((unhide HX2).call (unhide HB).2.2.2) ((unhide HY2).call (unhide HB).2.2.2)).mono ?_
  rintro e u2 ⟨rfl, kb⟩
  have HB := hide ((unhide HB).call kb)
  clear kb p0 p1 p2 q0 q1 q2 s0 s1 s2
  cases h2 : envB vs fs rs lj xs2 ys2
  · have HN := hide (show r = false by rw [← unhide HRR, leqD, unhide H1, h2]; rfl)
    clear h2
    go_wp2
    go_ret
    exact ⟨by rw [unhide HN]; rfl, (unhide HB).2.2.2⟩
  have H2 := hide h2
  clear h2
  have HN := hide (show r = leqE li lj (xs ++ ys) (xs2 ++ ys2) by rw [← unhide HRR, leqD, unhide H1, unhide H2]; rfl)
  have HL := hide (env_lens (unhide H1) (unhide H2))
  have p0 := (unhide HB).1.1
  have p1 := (unhide HB).1.2.1
  have p2 := (unhide HB).1.2.2.1
  have q0 := (unhide HB).2.1.1
  have q1 := (unhide HB).2.1.2.1
  have q2 := (unhide HB).2.1.2.2.1
  have s0 := (unhide HB).2.2.1.1
  have s1 := (unhide HB).2.2.1.2.1
  have s2 := (unhide HB).2.2.1.2.2.1
  cases li
  · go_wp2
    go_ret
    exact ⟨by rw [unhide HN]; rfl, (unhide HB).2.2.2⟩
  cases lj
  · go_wp2
    go_ret
    exact ⟨by rw [unhide HN]; rfl, (unhide HB).2.2.2⟩
  go_wp2_with fail
  refine (within_c (w.heap.size + 1) (w.heap.size + 2) true e1 e2 d1 d2 xs ys true e3 e4 d3 d4 xs2 ys2 _ (unhide HB).2.1 (unhide HB).2.2.1 ((unhide HX).call (unhide HB).2.2.2) ((unhide HY).call (unhide HB).2.2.2) ((unhide HX2).call (unhide HB).2.2.2) ((unhide HY2).call (unhide HB).2.2.2) (env_lens (unhide H1) (unhide H2) rfl rfl)).mono ?_
  rintro e u3 ⟨rfl, kb⟩
  have HB := hide ((unhide HB).call kb)
  clear kb p0 p1 p2 q0 q1 q2 s0 s1 s2
  go_wp2
  go_ret
  exact ⟨by rw [unhide HN]; rfl, (unhide HB).2.2.2⟩
end Go.Proofs.YthldhjifnpfmiaaDoor
