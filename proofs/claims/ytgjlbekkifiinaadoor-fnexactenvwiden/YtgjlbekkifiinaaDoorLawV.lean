/- Three structs of three cells, and what stays beside them. -/
import Derived.Test.YtgjlbekkifiinaaDoorLawU
namespace Go.Proofs.YtgjlbekkifiinaaDoor
open Go.RowKit
set_option linter.unusedSimpArgs false
set_option linter.unusedVariables false

def B9 (w0 : World) (p q r : Nat) (x0 y0 z0 x1 y1 z1 x2 y2 z2 : Value) (u : World) : Prop := C3 u p x0 y0 z0 ∧ C3 u q x1 y1 z1 ∧ C3 u r x2 y2 z2 ∧ Below w0.heap.size w0 u
theorem B9.call {w0 u v : World} {p q r : Nat} {x0 y0 z0 x1 y1 z1 x2 y2 z2 : Value} (k : B9 w0 p q r x0 y0 z0 x1 y1 z1 x2 y2 z2 u) (hb : Below u.heap.size u v) : B9 w0 p q r x0 y0 z0 x1 y1 z1 x2 y2 z2 v :=
  ⟨k.1.call hb, k.2.1.call hb, k.2.2.1.call hb, k.2.2.2.trans (hb.mono k.2.2.2.size)⟩
theorem B9.mid {w0 u v : World} {p q r lo hi : Nat} {x0 y0 z0 x1 y1 z1 x2 y2 z2 : Value} (k : B9 w0 p q r x0 y0 z0 x1 y1 z1 x2 y2 z2 u) (m : Mid lo hi u v) (hp : p < lo) (hq : q < lo) (hr : r < lo) (hw : w0.heap.size ≤ lo) : B9 w0 p q r x0 y0 z0 x1 y1 z1 x2 y2 z2 v :=
  ⟨k.1.mid m (.inl hp), k.2.1.mid m (.inl hq), k.2.2.1.mid m (.inl hr), Below.mid k.2.2.2 m hw⟩
theorem B9.new (w : World) (x0 y0 z0 x1 y1 z1 x2 y2 z2 : Value) (t0 t1 t2 : TypeId) : B9 w w.heap.size (w.heap.size + 1) (w.heap.size + 2) x0 y0 z0 x1 y1 z1 x2 y2 z2 (((w.alloc (Obj.cells #[x0, y0, z0] t0)).alloc (Obj.cells #[x1, y1, z1] t1)).alloc (Obj.cells #[x2, y2, z2] t2)) := by
  have T0 := ((C3.new w x0 y0 z0 t0).alloc (Obj.cells #[x1, y1, z1] t1)).alloc (Obj.cells #[x2, y2, z2] t2)
  have T1 := (C3.new (w.alloc (Obj.cells #[x0, y0, z0] t0)) x1 y1 z1 t1).alloc (Obj.cells #[x2, y2, z2] t2)
  have T2 := C3.new ((w.alloc (Obj.cells #[x0, y0, z0] t0)).alloc (Obj.cells #[x1, y1, z1] t1)) x2 y2 z2 t2
  rw [show (w.alloc (Obj.cells #[x0, y0, z0] t0)).heap.size = w.heap.size + 1 by simp] at T1
  rw [show ((w.alloc (Obj.cells #[x0, y0, z0] t0)).alloc (Obj.cells #[x1, y1, z1] t1)).heap.size = w.heap.size + 2 by simp] at T2
  exact ⟨T0, T1, T2, (((Below.refl _ _).alloc (Nat.le_refl _) _).alloc (by simp) _).alloc (by simp; omega) _⟩
theorem B9.set {w0 u : World} {p q r c o : Nat} {x0 y0 z0 x1 y1 z1 x2 y2 z2 : Value} (k : B9 w0 p q r x0 y0 z0 x1 y1 z1 x2 y2 z2 u) (hp : p < w0.heap.size) (hq : q < w0.heap.size) (hr : r < w0.heap.size) (hc : w0.heap.size ≤ c) (x : Value) : B9 w0 p q r x0 y0 z0 x1 y1 z1 x2 y2 z2 (u.setCell ⟨c, o, none⟩ x) :=
  ⟨k.1.other (by omega), k.2.1.other (by omega), k.2.2.1.other (by omega), k.2.2.2.setCell (by exact hc) x⟩
@[reducible] def G9 (w0 : World) (p q r : Nat) (x0 y0 z0 x1 y1 z1 x2 y2 z2 : Value) (u : World) : Prop :=
  u.cell? ⟨p, 0, none⟩ = some x0 ∧ u.cell? ⟨p, 1, none⟩ = some y0 ∧ u.cell? ⟨p, 2, none⟩ = some z0 ∧ u.cell? ⟨q, 0, none⟩ = some x1 ∧ u.cell? ⟨q, 1, none⟩ = some y1 ∧ u.cell? ⟨q, 2, none⟩ = some z1 ∧ u.cell? ⟨r, 0, none⟩ = some x2 ∧ u.cell? ⟨r, 1, none⟩ = some y2 ∧ u.cell? ⟨r, 2, none⟩ = some z2 ∧ Hid (B9 w0 p q r x0 y0 z0 x1 y1 z1 x2 y2 z2 u)
theorem G9.of {w0 u : World} {p q r : Nat} {x0 y0 z0 x1 y1 z1 x2 y2 z2 : Value} (k : B9 w0 p q r x0 y0 z0 x1 y1 z1 x2 y2 z2 u) : G9 w0 p q r x0 y0 z0 x1 y1 z1 x2 y2 z2 u := ⟨k.1.1, k.1.2.1, k.1.2.2.1, k.2.1.1, k.2.1.2.1, k.2.1.2.2.1, k.2.2.1.1, k.2.2.1.2.1, k.2.2.1.2.2.1, k⟩
theorem G9.b9 {w0 u : World} {p q r : Nat} {x0 y0 z0 x1 y1 z1 x2 y2 z2 : Value} (k : G9 w0 p q r x0 y0 z0 x1 y1 z1 x2 y2 z2 u) : B9 w0 p q r x0 y0 z0 x1 y1 z1 x2 y2 z2 u := unhide k.2.2.2.2.2.2.2.2.2
theorem G9.call {w0 u v : World} {p q r : Nat} {x0 y0 z0 x1 y1 z1 x2 y2 z2 : Value} (k : G9 w0 p q r x0 y0 z0 x1 y1 z1 x2 y2 z2 u) (hb : Below u.heap.size u v) : G9 w0 p q r x0 y0 z0 x1 y1 z1 x2 y2 z2 v := G9.of (k.b9.call hb)
theorem G9.drew {w0 u : World} {p q r : Nat} {x0 y0 z0 x1 y1 z1 x2 y2 z2 : Value} (k : G9 w0 p q r x0 y0 z0 x1 y1 z1 x2 y2 z2 u) : G9 w0 p q r x0 y0 z0 x1 y1 z1 x2 y2 z2 u.drew := G9.call k (Below.refl _ _).drew
theorem G9.bel {w0 u : World} {p q r : Nat} {x0 y0 z0 x1 y1 z1 x2 y2 z2 : Value} (k : G9 w0 p q r x0 y0 z0 x1 y1 z1 x2 y2 z2 u) : Below w0.heap.size w0 u := k.b9.2.2.2
end Go.Proofs.YtgjlbekkifiinaaDoor
