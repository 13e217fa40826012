/- One bound within another: the functions. -/
import Derived.Test.YthldhjifnpfmiaaGreatDoorLeqC
namespace Go.Proofs.YthldhjifnpfmiaaGreatDoor
open Go.RowKit
set_option linter.unusedSimpArgs false
set_option linter.unusedVariables false

/-- Three structs of three cells side by side; below all is as it was. -/
def B3 (w0 : World) (b : Nat) (x0 y0 z0 x1 y1 z1 x2 y2 z2 : Value) (u : World) : Prop := C3 u b x0 y0 z0 ∧ C3 u (b + 1) x1 y1 z1 ∧ C3 u (b + 2) x2 y2 z2 ∧ Below w0.heap.size w0 u
theorem B3.call {w0 u v : World} {b : Nat} {x0 y0 z0 x1 y1 z1 x2 y2 z2 : Value} (h : B3 w0 b x0 y0 z0 x1 y1 z1 x2 y2 z2 u) (hb : Below u.heap.size u v) : B3 w0 b x0 y0 z0 x1 y1 z1 x2 y2 z2 v :=
  ⟨h.1.call hb, h.2.1.call hb, h.2.2.1.call hb, h.2.2.2.trans (hb.mono h.2.2.2.size)⟩
theorem B3.new (w : World) (x0 y0 z0 x1 y1 z1 x2 y2 z2 : Value) (t0 t1 t2 : TypeId) : B3 w w.heap.size x0 y0 z0 x1 y1 z1 x2 y2 z2 (((w.alloc (Obj.cells #[x0, y0, z0] t0)).alloc (Obj.cells #[x1, y1, z1] t1)).alloc (Obj.cells #[x2, y2, z2] t2)) := by
  have T0 := ((C3.new w x0 y0 z0 t0).alloc (Obj.cells #[x1, y1, z1] t1)).alloc (Obj.cells #[x2, y2, z2] t2)
  have T1 := (C3.new (w.alloc (Obj.cells #[x0, y0, z0] t0)) x1 y1 z1 t1).alloc (Obj.cells #[x2, y2, z2] t2)
  have T2 := C3.new ((w.alloc (Obj.cells #[x0, y0, z0] t0)).alloc (Obj.cells #[x1, y1, z1] t1)) x2 y2 z2 t2
  rw [show (w.alloc (Obj.cells #[x0, y0, z0] t0)).heap.size = w.heap.size + 1 by simp] at T1
  rw [show ((w.alloc (Obj.cells #[x0, y0, z0] t0)).alloc (Obj.cells #[x1, y1, z1] t1)).heap.size = w.heap.size + 2 by simp] at T2
  exact ⟨T0, T1, T2, (((Below.refl _ _).alloc (Nat.le_refl _) _).alloc (by simp) _).alloc (by simp; omega) _⟩
theorem env_len {vs fs : List ByteArray} {rs : List (ByteArray × Int)} {li : Bool} {xs ys : List (Int × Int)} (h : envB vs fs rs li xs ys = true) : li = true → xs.length = vs.length ∧ ys.length = rs.length ∧ vs.length ≤ 5 ∧ rs.length ≤ 2 := by
  intro hl
  subst hl
  unfold envB at h
  rw [Bool.and_eq_true] at h
  have h1 := declB_len h.1
  have h2 := of_decide_eq_true h.2
  rcases h2 with ⟨h3, _⟩ | ⟨_, h3, h4, _⟩
  · cases h3
  · exact ⟨h3, h4, h1.1, h1.2.2⟩
theorem env_lens {vs fs : List ByteArray} {rs : List (ByteArray × Int)} {li lj : Bool} {xs ys xs2 ys2 : List (Int × Int)} (h : envB vs fs rs li xs ys = true) (h2 : envB vs fs rs lj xs2 ys2 = true) : li = true → lj = true → xs.length = xs2.length ∧ ys.length = ys2.length ∧ xs.length + ys.length ≤ 7 := by
  intro a b
  have := env_len h a
  have := env_len h2 b
  omega
def leqD (vs fs : List ByteArray) (rs : List (ByteArray × Int)) (li : Bool) (xs ys : List (Int × Int)) (lj : Bool) (xs2 ys2 : List (Int × Int)) : Bool := envB vs fs rs li xs ys && (envB vs fs rs lj xs2 ys2 && leqE li lj (xs ++ ys) (xs2 ++ ys2))
end Go.Proofs.YthldhjifnpfmiaaGreatDoor
