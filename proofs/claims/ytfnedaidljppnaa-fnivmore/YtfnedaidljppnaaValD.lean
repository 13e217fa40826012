/- Four cells of the call's own that nothing has been stored into yet, kept over calls; the laws' toInterval by what it leaves. -/
import Derived.Test.YtfnedaidljppnaaValC
namespace Go.Proofs.Ytfnedaidljppnaa
open Go.RowKit Go.Iv
set_option linter.unusedSimpArgs false

/-- A fresh answer of four cells lies in block b, beside the two pairs and behind M. -/
def Z4 (M B b : Nat) (w : World) : Prop :=
  (w.cell? ⟨b, 0, none⟩ = some (.int .i64 0) ∧ w.cell? ⟨b, 1, none⟩ = some (.int .i64 0) ∧ w.cell? ⟨b, 2, none⟩ = some (.bool false) ∧ w.cell? ⟨b, 3, none⟩ = some (.int .i64 0)) ∧ B + 2 ≤ b ∧ M ≤ b ∧ b < w.heap.size ∧ ∀ o, w.frozen? ⟨b, o, none⟩ = false
theorem Z4.call {M B b : Nat} {w w1 : World} (hb : Below w.heap.size w w1) (h : Z4 M B b w) : Z4 M B b w1 := by
  obtain ⟨⟨c0, c1, c2, c3⟩, h1, h2, h3, h4⟩ := h
  have := hb.size
  exact ⟨⟨(hb.cell (by exact h3)).trans c0, (hb.cell (by exact h3)).trans c1, (hb.cell (by exact h3)).trans c2, (hb.cell (by exact h3)).trans c3⟩, h1, h2, by omega, fun o => (hb.frozen (by exact h3)).trans (h4 o)⟩
theorem Z4.new {w0 w : World} {M B : Nat} {x0 y0 x1 y1 : Int} (h : S2 w0 M B x0 y0 x1 y1 w) (t : TypeId) : Z4 M B w.heap.size (w.alloc (.cells #[.int .i64 0, .int .i64 0, .bool false, .int .i64 0] t)) :=
  ⟨⟨by simp, by simp, by simp, by simp⟩, h.2.2.2.2.2.2, h.2.2.2.2.2.1, by simp, fun o => by simp [go_sem]⟩
theorem Res4.ofZ {w0 w : World} {M B b : Nat} {x0 y0 x1 y1 : Int} (h : S2 w0 M B x0 y0 x1 y1 w) (z : Z4 M B b w) (x y : Int) (l : Bool) (u : Int) :
    Res4 w0 M B x0 y0 x1 y1 (.pointer (some ⟨b, 0, none⟩)) x y l u ((((w.setCell ⟨b, 0, none⟩ (.int .i64 x)).setCell ⟨b, 1, none⟩ (.int .i64 y)).setCell ⟨b, 2, none⟩ (.bool l)).setCell ⟨b, 3, none⟩ (.int .i64 u)) :=
  Res4.set h z.2.1 z.2.2.1 z.1.1 z.1.2.1 z.1.2.2.1 z.1.2.2.2 x y l u
end Go.Proofs.Ytfnedaidljppnaa
