/- Cells that stay over what a drawn region does. -/
import Derived.Test.YthldhjifnpfmiaaGreatDoorNaZ
import Derived.Deep.RegionHeld3
namespace Go.Proofs.YthldhjifnpfmiaaGreatDoor
open Go.RowKit
set_option linter.unusedSimpArgs false

@[reducible] def H1 (w0 : World) (a1 : Addr) (v1 : Value) (w : World) : Prop := w.cell? a1 = some v1 ∧ Below w0.heap.size w0 w
theorem H1.drew {w0 w : World} {a1 : Addr} {v1 : Value} (h : H1 w0 a1 v1 w) : H1 w0 a1 v1 w.drew := ⟨h.1, h.2.drew⟩
theorem H1.call {w0 w w1 : World} {a1 : Addr} {v1 : Value} (hb : Below w.heap.size w w1) (h : H1 w0 a1 v1 w) : H1 w0 a1 v1 w1 := ⟨(hb.cell (World.block_lt_of_cell? w _ h.1)).trans h.1, h.2.trans (hb.mono h.2.size)⟩
@[reducible] def H2 (w0 : World) (a1 a2 : Addr) (v1 v2 : Value) (w : World) : Prop := w.cell? a1 = some v1 ∧ w.cell? a2 = some v2 ∧ Below w0.heap.size w0 w
theorem H2.drew {w0 w : World} {a1 a2 : Addr} {v1 v2 : Value} (h : H2 w0 a1 a2 v1 v2 w) : H2 w0 a1 a2 v1 v2 w.drew := ⟨h.1, h.2.1, h.2.2.drew⟩
theorem H2.call {w0 w w1 : World} {a1 a2 : Addr} {v1 v2 : Value} (hb : Below w.heap.size w w1) (h : H2 w0 a1 a2 v1 v2 w) : H2 w0 a1 a2 v1 v2 w1 :=
  ⟨(hb.cell (World.block_lt_of_cell? w _ h.1)).trans h.1, (hb.cell (World.block_lt_of_cell? w _ h.2.1)).trans h.2.1, h.2.2.trans (hb.mono h.2.2.size)⟩
@[reducible] def H4 (w0 : World) (a1 a2 a3 a4 : Addr) (v1 v2 v3 v4 : Value) (w : World) : Prop := w.cell? a1 = some v1 ∧ w.cell? a2 = some v2 ∧ w.cell? a3 = some v3 ∧ w.cell? a4 = some v4 ∧ Below w0.heap.size w0 w
theorem H4.drew {w0 w : World} {a1 a2 a3 a4 : Addr} {v1 v2 v3 v4 : Value} (h : H4 w0 a1 a2 a3 a4 v1 v2 v3 v4 w) : H4 w0 a1 a2 a3 a4 v1 v2 v3 v4 w.drew := ⟨h.1, h.2.1, h.2.2.1, h.2.2.2.1, h.2.2.2.2.drew⟩
theorem H4.call {w0 w w1 : World} {a1 a2 a3 a4 : Addr} {v1 v2 v3 v4 : Value} (hb : Below w.heap.size w w1) (h : H4 w0 a1 a2 a3 a4 v1 v2 v3 v4 w) : H4 w0 a1 a2 a3 a4 v1 v2 v3 v4 w1 :=
  ⟨(hb.cell (World.block_lt_of_cell? w _ h.1)).trans h.1, (hb.cell (World.block_lt_of_cell? w _ h.2.1)).trans h.2.1, (hb.cell (World.block_lt_of_cell? w _ h.2.2.1)).trans h.2.2.1, (hb.cell (World.block_lt_of_cell? w _ h.2.2.2.1)).trans h.2.2.2.1, h.2.2.2.2.trans (hb.mono h.2.2.2.2.size)⟩
end Go.Proofs.YthldhjifnpfmiaaGreatDoor
