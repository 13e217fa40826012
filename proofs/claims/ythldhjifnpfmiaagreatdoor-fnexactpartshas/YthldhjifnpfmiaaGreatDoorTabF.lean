/- One table within another. -/
import Derived.Test.YthldhjifnpfmiaaGreatDoorTabE
import Derived.Test.YthldhjifnpfmiaaGreatDoorLeqD
namespace Go.Proofs.YthldhjifnpfmiaaGreatDoor
open Go.RowKit
set_option linter.unusedSimpArgs false
set_option linter.unusedVariables false

theorem tab_len {vs fs : List ByteArray} {rs : List (ByteArray × Int)} {es : List ER} (h : tabB vs fs rs es = true) : es.length = 2 ^ fs.length := by
  unfold tabB at h
  simp at h
  exact h.2.1
theorem tab_env {vs fs : List ByteArray} {rs : List (ByteArray × Int)} {es : List ER} (h : tabB vs fs rs es = true) (k : Nat) (hk : k < es.length) : envB vs fs rs es[k].1 es[k].2.1 es[k].2.2 = true := by
  unfold tabB at h
  rw [Bool.and_eq_true, Bool.and_eq_true, List.all_eq_true] at h
  have := h.2.2 _ (List.getElem_mem hk)
  unfold envB
  rw [h.1]
  exact this
@[reducible] def H9 (w0 : World) (a b c p : Nat) (x y z x1 y1 z1 x2 y2 z2 : Value) (w : World) : Prop := w.cell? ⟨a, 0, none⟩ = some x ∧ w.cell? ⟨a, 1, none⟩ = some y ∧ w.cell? ⟨a, 2, none⟩ = some z ∧ w.cell? ⟨b, p, none⟩ = some x1 ∧ w.cell? ⟨b, p + 1, none⟩ = some y1 ∧ w.cell? ⟨b, p + 2, none⟩ = some z1 ∧ w.cell? ⟨c, p, none⟩ = some x2 ∧ w.cell? ⟨c, p + 1, none⟩ = some y2 ∧ w.cell? ⟨c, p + 2, none⟩ = some z2 ∧ C3 w a x y z ∧ Below w0.heap.size w0 w
theorem H9.call {w0 w w1 : World} {a b c p : Nat} {x y z x1 y1 z1 x2 y2 z2 : Value} (hb : Below w.heap.size w w1) (h : H9 w0 a b c p x y z x1 y1 z1 x2 y2 z2 w) : H9 w0 a b c p x y z x1 y1 z1 x2 y2 z2 w1 := by
  obtain ⟨h1, h2, h3, h4, h5, h6, h7, h8, h9, hc, hd⟩ := h
  exact ⟨(hb.cell (World.block_lt_of_cell? w _ h1)).trans h1, (hb.cell (World.block_lt_of_cell? w _ h2)).trans h2, (hb.cell (World.block_lt_of_cell? w _ h3)).trans h3, (hb.cell (World.block_lt_of_cell? w _ h4)).trans h4, (hb.cell (World.block_lt_of_cell? w _ h5)).trans h5, (hb.cell (World.block_lt_of_cell? w _ h6)).trans h6, (hb.cell (World.block_lt_of_cell? w _ h7)).trans h7, (hb.cell (World.block_lt_of_cell? w _ h8)).trans h8, (hb.cell (World.block_lt_of_cell? w _ h9)).trans h9, hc.call hb, hd.trans (hb.mono hd.size)⟩
theorem H9.drew {w0 w : World} {a b c p : Nat} {x y z x1 y1 z1 x2 y2 z2 : Value} (h : H9 w0 a b c p x y z x1 y1 z1 x2 y2 z2 w) : H9 w0 a b c p x y z x1 y1 z1 x2 y2 z2 w.drew := H9.call (Below.refl _ _).drew h
end Go.Proofs.YthldhjifnpfmiaaGreatDoor
