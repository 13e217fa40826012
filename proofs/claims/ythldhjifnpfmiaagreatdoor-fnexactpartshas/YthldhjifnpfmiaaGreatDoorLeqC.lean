/- One bound within another, as the specification asks for it. -/
import Derived.Test.YthldhjifnpfmiaaGreatDoorEnvH
import Derived.Deep.DeepCutAuto
namespace Go.Proofs.YthldhjifnpfmiaaGreatDoor
open Go.RowKit
set_option linter.unusedSimpArgs false
set_option linter.unusedVariables false

def leqsP (l m : List (Int × Int)) : Prop := ∀ k, (h : k < l.length) → (h2 : k < m.length) → leqB l[k].1 l[k].2 m[k].1 m[k].2 = true
instance (l m : List (Int × Int)) : Decidable (leqsP l m) := by unfold leqsP; infer_instance
/-- Bounds within others, both right. -/
def leqE (l1 l2 : Bool) (z1 z2 : List (Int × Int)) : Bool := !l1 || (l2 && decide (leqsP z1 z2))
/-- A region's condition that calls keep. -/
theorem stay1 {P : World → Prop} (hP : ∀ u v, Below u.heap.size u v → P u → P v) {u : World} (h : P u) : P u.drew := hP _ _ (Below.refl _ _).drew h
@[reducible] def H5 (w0 : World) (a1 a2 a3 a4 a5 : Addr) (v1 v2 v3 v4 v5 : Value) (w : World) : Prop := w.cell? a1 = some v1 ∧ w.cell? a2 = some v2 ∧ w.cell? a3 = some v3 ∧ w.cell? a4 = some v4 ∧ w.cell? a5 = some v5 ∧ Below w0.heap.size w0 w
theorem H5.drew {w0 w : World} {a1 a2 a3 a4 a5 : Addr} {v1 v2 v3 v4 v5 : Value} (h : H5 w0 a1 a2 a3 a4 a5 v1 v2 v3 v4 v5 w) : H5 w0 a1 a2 a3 a4 a5 v1 v2 v3 v4 v5 w.drew := ⟨h.1, h.2.1, h.2.2.1, h.2.2.2.1, h.2.2.2.2.1, h.2.2.2.2.2.drew⟩
theorem H5.call {w0 w w1 : World} {a1 a2 a3 a4 a5 : Addr} {v1 v2 v3 v4 v5 : Value} (hb : Below w.heap.size w w1) (h : H5 w0 a1 a2 a3 a4 a5 v1 v2 v3 v4 v5 w) : H5 w0 a1 a2 a3 a4 a5 v1 v2 v3 v4 v5 w1 :=
  ⟨(hb.cell (World.block_lt_of_cell? w _ h.1)).trans h.1, (hb.cell (World.block_lt_of_cell? w _ h.2.1)).trans h.2.1, (hb.cell (World.block_lt_of_cell? w _ h.2.2.1)).trans h.2.2.1, (hb.cell (World.block_lt_of_cell? w _ h.2.2.2.1)).trans h.2.2.2.1, (hb.cell (World.block_lt_of_cell? w _ h.2.2.2.2.1)).trans h.2.2.2.2.1, h.2.2.2.2.2.trans (hb.mono h.2.2.2.2.2.size)⟩
end Go.Proofs.YthldhjifnpfmiaaGreatDoor
