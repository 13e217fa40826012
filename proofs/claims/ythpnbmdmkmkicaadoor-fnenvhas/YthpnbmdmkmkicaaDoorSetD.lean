/- One variable's interval is set: the program's EnvSet. -/
import Derived.Test.YthpnbmdmkmkicaaDoorSetC
namespace Go.Proofs.YthpnbmdmkmkicaaDoor
open Go.RowKit
set_option linter.unusedSimpArgs false
set_option linter.unusedVariables false

/-- A declaration, bounds, an interval and the answer, each in a block. -/
def Q4 (w0 : World) (x0 y0 z0 x1 y1 z1 : Value) (al ah : Int) (u : World) : Prop := C3 u w0.heap.size x0 y0 z0 ∧ C3 u (w0.heap.size + 1) x1 y1 z1 ∧ (u.cell? ⟨w0.heap.size + 2, 0, none⟩ = some (.int .i64 al) ∧ u.cell? ⟨w0.heap.size + 2, 1, none⟩ = some (.int .i64 ah) ∧ w0.heap.size + 2 < u.heap.size) ∧ C3 u (w0.heap.size + 3) (.bool false) (.slice none 0 0) (.slice none 0 0) ∧ Below w0.heap.size w0 u
theorem Q4.call {w0 u v : World} {x0 y0 z0 x1 y1 z1 : Value} {al ah : Int} (h : Q4 w0 x0 y0 z0 x1 y1 z1 al ah u) (hb : Below u.heap.size u v) : Q4 w0 x0 y0 z0 x1 y1 z1 al ah v :=
  ⟨h.1.call hb, h.2.1.call hb, ⟨(hb.cell (by exact h.2.2.1.2.2)).trans h.2.2.1.1, (hb.cell (by exact h.2.2.1.2.2)).trans h.2.2.1.2.1, Nat.lt_of_lt_of_le h.2.2.1.2.2 hb.size⟩, h.2.2.2.1.call hb, h.2.2.2.2.trans (hb.mono h.2.2.2.2.size)⟩
theorem Q4.new (w : World) (x0 y0 z0 x1 y1 z1 : Value) (al ah : Int) (t0 t1 t2 t3 : TypeId) : Q4 w x0 y0 z0 x1 y1 z1 al ah ((((w.alloc (Obj.cells #[x0, y0, z0] t0)).alloc (Obj.cells #[x1, y1, z1] t1)).alloc (Obj.cells #[.int .i64 al, .int .i64 ah] t2)).alloc (Obj.cells #[.bool false, .slice none 0 0, .slice none 0 0] t3)) := by
  have T0 := (((C3.new w x0 y0 z0 t0).alloc (Obj.cells #[x1, y1, z1] t1)).alloc (Obj.cells #[.int .i64 al, .int .i64 ah] t2)).alloc (Obj.cells #[.bool false, .slice none 0 0, .slice none 0 0] t3)
  have T1 := ((C3.new (w.alloc (Obj.cells #[x0, y0, z0] t0)) x1 y1 z1 t1).alloc (Obj.cells #[.int .i64 al, .int .i64 ah] t2)).alloc (Obj.cells #[.bool false, .slice none 0 0, .slice none 0 0] t3)
  have T3 := C3.new (((w.alloc (Obj.cells #[x0, y0, z0] t0)).alloc (Obj.cells #[x1, y1, z1] t1)).alloc (Obj.cells #[.int .i64 al, .int .i64 ah] t2)) (.bool false) (.slice none 0 0) (.slice none 0 0) t3
  rw [show (w.alloc (Obj.cells #[x0, y0, z0] t0)).heap.size = w.heap.size + 1 by simp] at T1
  rw [show (((w.alloc (Obj.cells #[x0, y0, z0] t0)).alloc (Obj.cells #[x1, y1, z1] t1)).alloc (Obj.cells #[.int .i64 al, .int .i64 ah] t2)).heap.size = w.heap.size + 3 by simp] at T3
  exact ⟨T0, T1, ⟨by simp [go_sem], by simp [go_sem], by simp⟩, T3, ((((Below.refl _ _).alloc (Nat.le_refl _) _).alloc (by simp) _).alloc (by simp; omega) _).alloc (by simp; omega) _⟩
/-- What is set is right. -/
def setOk (vs fs : List ByteArray) (rs : List (ByteArray × Int)) (li : Bool) (xs ys : List (Int × Int)) (v al ah : Int) : Bool := envB vs fs rs li xs ys && (li && (decide (0 ≤ v ∧ v < vs.length) && okB al ah))
/-- The bounds that come out. -/
def setX (vs fs : List ByteArray) (rs : List (ByteArray × Int)) (li : Bool) (xs ys : List (Int × Int)) (v al ah : Int) : List (Int × Int) := if setOk vs fs rs li xs ys v al ah = true then xs.set v.toNat (al, ah) else []
def setY (vs fs : List ByteArray) (rs : List (ByteArray × Int)) (li : Bool) (xs ys : List (Int × Int)) (v al ah : Int) : List (Int × Int) := if setOk vs fs rs li xs ys v al ah = true then ys else []
theorem rows_nil (w : World) (B : Nat) : RowsE w B none 0 none 0 [] [] := ⟨World.ownsRow_nil _ _ _ _, World.ownsRow_nil _ _ _ _, fun x y h => by cases h⟩
end Go.Proofs.YthpnbmdmkmkicaaDoor
