/- Three structs of three cells, all their cells at hand. -/
import Derived.Test.YtoipaejbkcdioaaDoorStZ
import Derived.Test.YtoipaejbkcdioaaDoorLeqD
import Derived.Deep.DeepCutAuto
namespace Go.Proofs.YtoipaejbkcdioaaDoor
open Go.RowKit
set_option linter.unusedSimpArgs false
set_option linter.unusedVariables false
@[reducible] def G3 (w0 : World) (b : Nat) (x0 y0 z0 x1 y1 z1 x2 y2 z2 : Value) (u : World) : Prop :=
  u.cell? ⟨b, 0, none⟩ = some x0 ∧ u.cell? ⟨b, 1, none⟩ = some y0 ∧ u.cell? ⟨b, 2, none⟩ = some z0 ∧ u.cell? ⟨b + 1, 0, none⟩ = some x1 ∧ u.cell? ⟨b + 1, 1, none⟩ = some y1 ∧ u.cell? ⟨b + 1, 2, none⟩ = some z1 ∧ u.cell? ⟨b + 2, 0, none⟩ = some x2 ∧ u.cell? ⟨b + 2, 1, none⟩ = some y2 ∧ u.cell? ⟨b + 2, 2, none⟩ = some z2 ∧ Hid (B3 w0 b x0 y0 z0 x1 y1 z1 x2 y2 z2 u)
theorem G3.of {w0 u : World} {b : Nat} {x0 y0 z0 x1 y1 z1 x2 y2 z2 : Value} (h : B3 w0 b x0 y0 z0 x1 y1 z1 x2 y2 z2 u) : G3 w0 b x0 y0 z0 x1 y1 z1 x2 y2 z2 u :=
  ⟨h.1.1, h.1.2.1, h.1.2.2.1, h.2.1.1, h.2.1.2.1, h.2.1.2.2.1, h.2.2.1.1, h.2.2.1.2.1, h.2.2.1.2.2.1, h⟩
theorem G3.b3 {w0 u : World} {b : Nat} {x0 y0 z0 x1 y1 z1 x2 y2 z2 : Value} (h : G3 w0 b x0 y0 z0 x1 y1 z1 x2 y2 z2 u) : B3 w0 b x0 y0 z0 x1 y1 z1 x2 y2 z2 u := unhide h.2.2.2.2.2.2.2.2.2
theorem G3.call {w0 u v : World} {b : Nat} {x0 y0 z0 x1 y1 z1 x2 y2 z2 : Value} (hb : Below u.heap.size u v) (h : G3 w0 b x0 y0 z0 x1 y1 z1 x2 y2 z2 u) : G3 w0 b x0 y0 z0 x1 y1 z1 x2 y2 z2 v := G3.of (h.b3.call hb)
theorem G3.drew {w0 u : World} {b : Nat} {x0 y0 z0 x1 y1 z1 x2 y2 z2 : Value} (h : G3 w0 b x0 y0 z0 x1 y1 z1 x2 y2 z2 u) : G3 w0 b x0 y0 z0 x1 y1 z1 x2 y2 z2 u.drew := G3.call (Below.refl _ _).drew h
end Go.Proofs.YtoipaejbkcdioaaDoor
