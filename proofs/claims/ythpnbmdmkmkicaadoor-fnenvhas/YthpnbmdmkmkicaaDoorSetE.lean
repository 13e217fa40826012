/- One variable's interval is set: the specification's EnvSet. -/
import Derived.Test.YthpnbmdmkmkicaaDoorSetD
import Derived.Test.YthpnbmdmkmkicaaDoorCopD
namespace Go.Proofs.YthpnbmdmkmkicaaDoor
open Go.RowKit
set_option linter.unusedSimpArgs false
set_option linter.unusedVariables false

/-- Bounds, an interval and the answer, each in a block. -/
def Q3 (w0 : World) (x1 y1 z1 : Value) (al ah : Int) (u : World) : Prop := C3 u w0.heap.size x1 y1 z1 ∧ (u.cell? ⟨w0.heap.size + 1, 0, none⟩ = some (.int .i64 al) ∧ u.cell? ⟨w0.heap.size + 1, 1, none⟩ = some (.int .i64 ah) ∧ w0.heap.size + 1 < u.heap.size) ∧ C3 u (w0.heap.size + 2) (.bool false) (.slice none 0 0) (.slice none 0 0) ∧ Below w0.heap.size w0 u
theorem Q3.call {w0 u v : World} {x1 y1 z1 : Value} {al ah : Int} (h : Q3 w0 x1 y1 z1 al ah u) (hb : Below u.heap.size u v) : Q3 w0 x1 y1 z1 al ah v :=
  ⟨h.1.call hb, ⟨(hb.cell (by exact h.2.1.2.2)).trans h.2.1.1, (hb.cell (by exact h.2.1.2.2)).trans h.2.1.2.1, Nat.lt_of_lt_of_le h.2.1.2.2 hb.size⟩, h.2.2.1.call hb, h.2.2.2.trans (hb.mono h.2.2.2.size)⟩
theorem Q3.new (w : World) (x1 y1 z1 : Value) (al ah : Int) (t1 t2 t3 : TypeId) : Q3 w x1 y1 z1 al ah (((w.alloc (Obj.cells #[x1, y1, z1] t1)).alloc (Obj.cells #[.int .i64 al, .int .i64 ah] t2)).alloc (Obj.cells #[.bool false, .slice none 0 0, .slice none 0 0] t3)) := by
  have T1 := ((C3.new w x1 y1 z1 t1).alloc (Obj.cells #[.int .i64 al, .int .i64 ah] t2)).alloc (Obj.cells #[.bool false, .slice none 0 0, .slice none 0 0] t3)
  have T3 := C3.new ((w.alloc (Obj.cells #[x1, y1, z1] t1)).alloc (Obj.cells #[.int .i64 al, .int .i64 ah] t2)) (.bool false) (.slice none 0 0) (.slice none 0 0) t3
  rw [show ((w.alloc (Obj.cells #[x1, y1, z1] t1)).alloc (Obj.cells #[.int .i64 al, .int .i64 ah] t2)).heap.size = w.heap.size + 2 by simp] at T3
  exact ⟨T1, ⟨by simp [go_sem], by simp [go_sem], by simp⟩, T3, (((Below.refl _ _).alloc (Nat.le_refl _) _).alloc (by simp) _).alloc (by simp; omega) _⟩
end Go.Proofs.YthpnbmdmkmkicaaDoor
