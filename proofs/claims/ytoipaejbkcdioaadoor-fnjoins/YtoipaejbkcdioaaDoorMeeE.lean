/- The meet of bounds: the specification's function. -/
import Derived.Test.YtoipaejbkcdioaaDoorMeeD
import Derived.Test.YtoipaejbkcdioaaDoorLawU
namespace Go.Proofs.YtoipaejbkcdioaaDoor
open Go.RowKit
set_option linter.unusedSimpArgs false
set_option linter.unusedVariables false

/-- An interval in a block of the call's own. -/
def CI (u : World) (b : Nat) (x y : Int) : Prop := u.cell? ⟨b, 0, none⟩ = some (.int .i64 x) ∧ u.cell? ⟨b, 1, none⟩ = some (.int .i64 y) ∧ (∀ o, u.frozen? ⟨b, o, none⟩ = false) ∧ b < u.heap.size
theorem CI.new (w : World) (x y : Int) (t : TypeId) : CI (w.alloc (Obj.cells #[.int .i64 x, .int .i64 y] t)) w.heap.size x y :=
  ⟨by simp [go_sem], by simp [go_sem], fun o => by simp [go_sem], by simp⟩
theorem CI.call {u v : World} {b : Nat} {x y : Int} (h : CI u b x y) (hb : Below u.heap.size u v) : CI v b x y :=
  ⟨(hb.cell (by exact h.2.2.2)).trans h.1, (hb.cell (by exact h.2.2.2)).trans h.2.1, fun o => (hb.frozen (by exact h.2.2.2)).trans (h.2.2.1 o), Nat.lt_of_lt_of_le h.2.2.2 hb.size⟩
theorem CI.stored {u : World} {b : Nat} {x y : Int} (h : CI u b x y) (p q : Int) : CI ((u.setCell ⟨b, 0, none⟩ (.int .i64 p)).setCell ⟨b, 1, none⟩ (.int .i64 q)) b p q :=
  ⟨by simp [go_sem, h.1, h.2.1], by simp [go_sem, h.1, h.2.1], fun o => by simp [World.frozen?_setCell, h.2.2.1 o], by simpa [World.setCell] using h.2.2.2⟩
end Go.Proofs.YtoipaejbkcdioaaDoor
