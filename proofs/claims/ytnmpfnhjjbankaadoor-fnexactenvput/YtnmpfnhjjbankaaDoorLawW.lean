/- Two structs of three cells and two intervals stay. -/
import Derived.Test.YtnmpfnhjjbankaaDoorLawU
namespace Go.Proofs.YtnmpfnhjjbankaaDoor
open Go.RowKit
set_option linter.unusedSimpArgs false
set_option linter.unusedVariables false

def BA (w0 : World) (p q r s : Nat) (x0 y0 z0 x1 y1 z1 l h l2 h2 : Value) (u : World) : Prop := C3 u p x0 y0 z0 ∧ C3 u q x1 y1 z1 ∧ (u.cell? ⟨r, 0, none⟩ = some l ∧ u.cell? ⟨r, 1, none⟩ = some h) ∧ (u.cell? ⟨s, 0, none⟩ = some l2 ∧ u.cell? ⟨s, 1, none⟩ = some h2) ∧ Below w0.heap.size w0 u
theorem BA.call {w0 u v : World} {p q r s : Nat} {x0 y0 z0 x1 y1 z1 l h l2 h2 : Value} (k : BA w0 p q r s x0 y0 z0 x1 y1 z1 l h l2 h2 u) (hb : Below u.heap.size u v) : BA w0 p q r s x0 y0 z0 x1 y1 z1 l h l2 h2 v :=
  ⟨k.1.call hb, k.2.1.call hb, ⟨(hb.cell (World.block_lt_of_cell? u _ k.2.2.1.1)).trans k.2.2.1.1, (hb.cell (World.block_lt_of_cell? u _ k.2.2.1.2)).trans k.2.2.1.2⟩, ⟨(hb.cell (World.block_lt_of_cell? u _ k.2.2.2.1.1)).trans k.2.2.2.1.1, (hb.cell (World.block_lt_of_cell? u _ k.2.2.2.1.2)).trans k.2.2.2.1.2⟩, k.2.2.2.2.trans (hb.mono k.2.2.2.2.size)⟩
theorem BA.mid {w0 u v : World} {p q r s lo hi : Nat} {x0 y0 z0 x1 y1 z1 l h l2 h2 : Value} (k : BA w0 p q r s x0 y0 z0 x1 y1 z1 l h l2 h2 u) (m : Mid lo hi u v) (hp : p < lo) (hq : q < lo) (hr : r < lo) (hs : s < lo) (hw : w0.heap.size ≤ lo) : BA w0 p q r s x0 y0 z0 x1 y1 z1 l h l2 h2 v :=
  ⟨k.1.mid m (.inl hp), k.2.1.mid m (.inl hq), ⟨(m.cell (World.block_lt_of_cell? u _ k.2.2.1.1) (.inl hr)).trans k.2.2.1.1, (m.cell (World.block_lt_of_cell? u _ k.2.2.1.2) (.inl hr)).trans k.2.2.1.2⟩, ⟨(m.cell (World.block_lt_of_cell? u _ k.2.2.2.1.1) (.inl hs)).trans k.2.2.2.1.1, (m.cell (World.block_lt_of_cell? u _ k.2.2.2.1.2) (.inl hs)).trans k.2.2.2.1.2⟩, Below.mid k.2.2.2.2 m hw⟩
theorem BA.new (w : World) (x0 y0 z0 x1 y1 z1 l h l2 h2 : Value) (t0 t1 t2 t3 : TypeId) : BA w w.heap.size (w.heap.size + 1) (w.heap.size + 2) (w.heap.size + 3) x0 y0 z0 x1 y1 z1 l h l2 h2 ((((w.alloc (Obj.cells #[x0, y0, z0] t0)).alloc (Obj.cells #[x1, y1, z1] t1)).alloc (Obj.cells #[l, h] t2)).alloc (Obj.cells #[l2, h2] t3)) := by
  have k := B8.new w x0 y0 z0 x1 y1 z1 l h t0 t1 t2
  have e := k.call ((Below.refl _ _).alloc (Nat.le_refl _) (Obj.cells #[l2, h2] t3))
  exact ⟨e.1, e.2.1, e.2.2.1, ⟨by simp [go_sem], by simp [go_sem]⟩, e.2.2.2⟩
theorem BA.b8 {w0 u : World} {p q r s : Nat} {x0 y0 z0 x1 y1 z1 l h l2 h2 : Value} (k : BA w0 p q r s x0 y0 z0 x1 y1 z1 l h l2 h2 u) : B8 w0 p q r x0 y0 z0 x1 y1 z1 l h u := ⟨k.1, k.2.1, k.2.2.1, k.2.2.2.2⟩
theorem BA.b8' {w0 u : World} {p q r s : Nat} {x0 y0 z0 x1 y1 z1 l h l2 h2 : Value} (k : BA w0 p q r s x0 y0 z0 x1 y1 z1 l h l2 h2 u) : B8 w0 p q s x0 y0 z0 x1 y1 z1 l2 h2 u := ⟨k.1, k.2.1, k.2.2.2.1, k.2.2.2.2⟩
theorem BA.of {w0 u : World} {p q r s : Nat} {x0 y0 z0 x1 y1 z1 l h l2 h2 : Value} (k : B8 w0 p q r x0 y0 z0 x1 y1 z1 l h u) (k2 : B8 w0 p q s x0 y0 z0 x1 y1 z1 l2 h2 u) : BA w0 p q r s x0 y0 z0 x1 y1 z1 l h l2 h2 u := ⟨k.1, k.2.1, k.2.2.1, k2.2.2.1, k.2.2.2⟩
theorem BA.set {w0 u : World} {p q r s c o : Nat} {x0 y0 z0 x1 y1 z1 l h l2 h2 : Value} (k : BA w0 p q r s x0 y0 z0 x1 y1 z1 l h l2 h2 u) (hp : p < w0.heap.size) (hq : q < w0.heap.size) (hr : r < w0.heap.size) (hs : s < w0.heap.size) (hc : w0.heap.size ≤ c) (x : Value) : BA w0 p q r s x0 y0 z0 x1 y1 z1 l h l2 h2 (u.setCell ⟨c, o, none⟩ x) :=
  BA.of (k.b8.set hp hq hr hc x) (k.b8'.set hp hq hs hc x)
@[reducible] def GA (w0 : World) (p q r s : Nat) (x0 y0 z0 x1 y1 z1 l h l2 h2 : Value) (u : World) : Prop :=
  u.cell? ⟨p, 0, none⟩ = some x0 ∧ u.cell? ⟨p, 1, none⟩ = some y0 ∧ u.cell? ⟨p, 2, none⟩ = some z0 ∧ u.cell? ⟨q, 0, none⟩ = some x1 ∧ u.cell? ⟨q, 1, none⟩ = some y1 ∧ u.cell? ⟨q, 2, none⟩ = some z1 ∧ u.cell? ⟨r, 0, none⟩ = some l ∧ u.cell? ⟨r, 1, none⟩ = some h ∧ u.cell? ⟨s, 0, none⟩ = some l2 ∧ u.cell? ⟨s, 1, none⟩ = some h2 ∧ Hid (BA w0 p q r s x0 y0 z0 x1 y1 z1 l h l2 h2 u)
theorem GA.of {w0 u : World} {p q r s : Nat} {x0 y0 z0 x1 y1 z1 l h l2 h2 : Value} (k : BA w0 p q r s x0 y0 z0 x1 y1 z1 l h l2 h2 u) : GA w0 p q r s x0 y0 z0 x1 y1 z1 l h l2 h2 u := ⟨k.1.1, k.1.2.1, k.1.2.2.1, k.2.1.1, k.2.1.2.1, k.2.1.2.2.1, k.2.2.1.1, k.2.2.1.2, k.2.2.2.1.1, k.2.2.2.1.2, k⟩
theorem GA.ba {w0 u : World} {p q r s : Nat} {x0 y0 z0 x1 y1 z1 l h l2 h2 : Value} (k : GA w0 p q r s x0 y0 z0 x1 y1 z1 l h l2 h2 u) : BA w0 p q r s x0 y0 z0 x1 y1 z1 l h l2 h2 u := unhide k.2.2.2.2.2.2.2.2.2.2
theorem GA.call {w0 u v : World} {p q r s : Nat} {x0 y0 z0 x1 y1 z1 l h l2 h2 : Value} (k : GA w0 p q r s x0 y0 z0 x1 y1 z1 l h l2 h2 u) (hb : Below u.heap.size u v) : GA w0 p q r s x0 y0 z0 x1 y1 z1 l h l2 h2 v := GA.of (k.ba.call hb)
theorem GA.drew {w0 u : World} {p q r s : Nat} {x0 y0 z0 x1 y1 z1 l h l2 h2 : Value} (k : GA w0 p q r s x0 y0 z0 x1 y1 z1 l h l2 h2 u) : GA w0 p q r s x0 y0 z0 x1 y1 z1 l h l2 h2 u.drew := GA.call k (Below.refl _ _).drew
theorem GA.bel {w0 u : World} {p q r s : Nat} {x0 y0 z0 x1 y1 z1 l h l2 h2 : Value} (k : GA w0 p q r s x0 y0 z0 x1 y1 z1 l h l2 h2 u) : Below w0.heap.size w0 u := k.ba.2.2.2.2
end Go.Proofs.YtnmpfnhjjbankaaDoor
