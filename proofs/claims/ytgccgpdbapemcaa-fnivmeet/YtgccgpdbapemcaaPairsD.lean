/- Five pairs of numbers that lie in blocks of a law's own. -/
import Derived.Test.YtgccgpdbapemcaaPairsC
namespace Go.Proofs.Ytgccgpdbapemcaa
open Go.RowKit Go.Iv

/-- 5 pairs of numbers lie in blocks of the call's own; below M all is as it was. -/
@[reducible] def P5 (w0 : World) (M b0 b1 b2 b3 b4 : Nat) (x0 y0 x1 y1 x2 y2 x3 y3 x4 y4 : Int) (w : World) : Prop :=
  w.cell? ⟨b0, 0, none⟩ = some (.int .i64 x0) ∧ w.cell? ⟨b0, 1, none⟩ = some (.int .i64 y0) ∧ w.cell? ⟨b1, 0, none⟩ = some (.int .i64 x1) ∧ w.cell? ⟨b1, 1, none⟩ = some (.int .i64 y1) ∧ w.cell? ⟨b2, 0, none⟩ = some (.int .i64 x2) ∧ w.cell? ⟨b2, 1, none⟩ = some (.int .i64 y2) ∧ w.cell? ⟨b3, 0, none⟩ = some (.int .i64 x3) ∧ w.cell? ⟨b3, 1, none⟩ = some (.int .i64 y3) ∧ w.cell? ⟨b4, 0, none⟩ = some (.int .i64 x4) ∧ w.cell? ⟨b4, 1, none⟩ = some (.int .i64 y4) ∧ Hid (Below M w0 w ∧ M ≤ w.heap.size ∧ b0 < w.heap.size ∧ b1 < w.heap.size ∧ b2 < w.heap.size ∧ b3 < w.heap.size ∧ b4 < w.heap.size)
theorem P5.drew {w0 w : World} {M b0 b1 b2 b3 b4 : Nat} {x0 y0 x1 y1 x2 y2 x3 y3 x4 y4 : Int} (h : P5 w0 M b0 b1 b2 b3 b4 x0 y0 x1 y1 x2 y2 x3 y3 x4 y4 w) : P5 w0 M b0 b1 b2 b3 b4 x0 y0 x1 y1 x2 y2 x3 y3 x4 y4 w.drew := by
  obtain ⟨p0, q0, p1, q1, p2, q2, p3, q3, p4, q4, k⟩ := h
  exact ⟨p0, q0, p1, q1, p2, q2, p3, q3, p4, q4, (unhide k).1.drew, (unhide k).2⟩
theorem P5.call {w0 w w1 : World} {M b0 b1 b2 b3 b4 : Nat} {x0 y0 x1 y1 x2 y2 x3 y3 x4 y4 : Int} (hb : Below w.heap.size w w1) (h : P5 w0 M b0 b1 b2 b3 b4 x0 y0 x1 y1 x2 y2 x3 y3 x4 y4 w) : P5 w0 M b0 b1 b2 b3 b4 x0 y0 x1 y1 x2 y2 x3 y3 x4 y4 w1 := by
  obtain ⟨p0, q0, p1, q1, p2, q2, p3, q3, p4, q4, k⟩ := h
  obtain ⟨e, f, s0, s1, s2, s3, s4⟩ := unhide k
  have g := hb.size
  exact ⟨(hb.cell (by exact s0)).trans p0, (hb.cell (by exact s0)).trans q0, (hb.cell (by exact s1)).trans p1, (hb.cell (by exact s1)).trans q1, (hb.cell (by exact s2)).trans p2, (hb.cell (by exact s2)).trans q2, (hb.cell (by exact s3)).trans p3, (hb.cell (by exact s3)).trans q3, (hb.cell (by exact s4)).trans p4, (hb.cell (by exact s4)).trans q4, e.trans (hb.mono f), by omega, by omega, by omega, by omega, by omega, by omega⟩
theorem P5.alloc {w0 w : World} {M b0 b1 b2 b3 b4 : Nat} {x0 y0 x1 y1 x2 y2 x3 y3 x4 y4 : Int} (h : P5 w0 M b0 b1 b2 b3 b4 x0 y0 x1 y1 x2 y2 x3 y3 x4 y4 w) (o : Obj) : P5 w0 M b0 b1 b2 b3 b4 x0 y0 x1 y1 x2 y2 x3 y3 x4 y4 (w.alloc o) :=
  P5.call ((Below.refl _ _).alloc (Nat.le_refl _) o) h
theorem P5.new {w0 w : World} {M b0 b1 b2 b3 : Nat} {x0 y0 x1 y1 x2 y2 x3 y3 : Int} (h : P4 w0 M b0 b1 b2 b3 x0 y0 x1 y1 x2 y2 x3 y3 w) (x4 y4 : Int) (t : TypeId) : P5 w0 M b0 b1 b2 b3 w.heap.size x0 y0 x1 y1 x2 y2 x3 y3 x4 y4 (w.alloc (.cells #[.int .i64 x4, .int .i64 y4] t)) := by
  have h' := h.alloc (.cells #[.int .i64 x4, .int .i64 y4] t)
  obtain ⟨p0, q0, p1, q1, p2, q2, p3, q3, k⟩ := h'
  obtain ⟨e, f, s0, s1, s2, s3⟩ := unhide k
  exact ⟨p0, q0, p1, q1, p2, q2, p3, q3, by simp, by simp, e, f, s0, s1, s2, s3, by simp⟩
end Go.Proofs.Ytgccgpdbapemcaa
