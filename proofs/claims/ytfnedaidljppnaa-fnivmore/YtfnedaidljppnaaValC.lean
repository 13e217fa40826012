/- The laws' own helpers on answers of four cells. -/
import Derived.Test.YtfnedaidljppnaaIvD
import Derived.Test.YtfnedaidljppnaaMathC
namespace Go.Proofs.Ytfnedaidljppnaa
open Go.RowKit Go.Iv
set_option linter.unusedSimpArgs false

theorem set4_at {w : World} {b : Nat} {v0 v1 v2 v3 x y z u : Value} (h0 : w.cell? ⟨b, 0, none⟩ = some v0) (h1 : w.cell? ⟨b, 1, none⟩ = some v1) (h2 : w.cell? ⟨b, 2, none⟩ = some v2) (h3 : w.cell? ⟨b, 3, none⟩ = some v3) :
    ((((w.setCell ⟨b, 0, none⟩ x).setCell ⟨b, 1, none⟩ y).setCell ⟨b, 2, none⟩ z).setCell ⟨b, 3, none⟩ u).cell? ⟨b, 0, none⟩ = some x ∧ ((((w.setCell ⟨b, 0, none⟩ x).setCell ⟨b, 1, none⟩ y).setCell ⟨b, 2, none⟩ z).setCell ⟨b, 3, none⟩ u).cell? ⟨b, 1, none⟩ = some y ∧ ((((w.setCell ⟨b, 0, none⟩ x).setCell ⟨b, 1, none⟩ y).setCell ⟨b, 2, none⟩ z).setCell ⟨b, 3, none⟩ u).cell? ⟨b, 2, none⟩ = some z ∧ ((((w.setCell ⟨b, 0, none⟩ x).setCell ⟨b, 1, none⟩ y).setCell ⟨b, 2, none⟩ z).setCell ⟨b, 3, none⟩ u).cell? ⟨b, 3, none⟩ = some u ∧ b < ((((w.setCell ⟨b, 0, none⟩ x).setCell ⟨b, 1, none⟩ y).setCell ⟨b, 2, none⟩ z).setCell ⟨b, 3, none⟩ u).heap.size := by
  have hlt := World.block_lt_of_cell? w _ h0
  refine ⟨?_, ?_, ?_, ?_, ?_⟩
  · simp [go_sem, h0, h1, h2, h3]
  · simp [go_sem, h0, h1, h2, h3]
  · simp [go_sem, h0, h1, h2, h3]
  · simp [go_sem, h0, h1, h2, h3]
  · simpa [World.setCell] using hlt

/-- An answer of four cells lies in a block of its own beside the two pairs. -/
def Res4 (w0 : World) (M B : Nat) (x0 y0 x1 y1 : Int) (p : Value) (x y : Int) (z : Bool) (u : Int) (w : World) : Prop :=
  ∃ b, p = .pointer (some ⟨b, 0, none⟩) ∧ (w.cell? ⟨b, 0, none⟩ = some (.int .i64 x) ∧ w.cell? ⟨b, 1, none⟩ = some (.int .i64 y) ∧ w.cell? ⟨b, 2, none⟩ = some (.bool z) ∧ w.cell? ⟨b, 3, none⟩ = some (.int .i64 u)) ∧ B + 2 ≤ b ∧ b < w.heap.size ∧ S2 w0 M B x0 y0 x1 y1 w
theorem Res4.new {w0 w : World} {M B : Nat} {x0 y0 x1 y1 : Int} (h : S2 w0 M B x0 y0 x1 y1 w) (x y : Int) (z : Bool) (u : Int) (t : TypeId) :
    Res4 w0 M B x0 y0 x1 y1 (.pointer (some ⟨w.heap.size, 0, none⟩)) x y z u (w.alloc (.cells #[.int .i64 x, .int .i64 y, .bool z, .int .i64 u] t)) :=
  ⟨_, rfl, ⟨by simp, by simp, by simp, by simp⟩, h.2.2.2.2.2.2, by simp, S2.alloc h _⟩
theorem Res4.set {w0 w : World} {M B b : Nat} {x0 y0 x1 y1 : Int} {v0 v1 v2 v3 : Value} (h : S2 w0 M B x0 y0 x1 y1 w) (hb : B + 2 ≤ b) (hm : M ≤ b) (h0 : w.cell? ⟨b, 0, none⟩ = some v0) (h1 : w.cell? ⟨b, 1, none⟩ = some v1) (h2 : w.cell? ⟨b, 2, none⟩ = some v2) (h3 : w.cell? ⟨b, 3, none⟩ = some v3) (x y : Int) (z : Bool) (u : Int) :
    Res4 w0 M B x0 y0 x1 y1 (.pointer (some ⟨b, 0, none⟩)) x y z u ((((w.setCell ⟨b, 0, none⟩ (.int .i64 x)).setCell ⟨b, 1, none⟩ (.int .i64 y)).setCell ⟨b, 2, none⟩ (.bool z)).setCell ⟨b, 3, none⟩ (.int .i64 u)) :=
  ⟨b, rfl, ⟨(set4_at h0 h1 h2 h3).1, (set4_at h0 h1 h2 h3).2.1, (set4_at h0 h1 h2 h3).2.2.1, (set4_at h0 h1 h2 h3).2.2.2.1⟩, hb, (set4_at h0 h1 h2 h3).2.2.2.2, S2.set (S2.set (S2.set (S2.set h hb hm _) hb hm _) hb hm _) hb hm _⟩

end Go.Proofs.Ytfnedaidljppnaa
