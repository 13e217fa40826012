/- Some pairs of numbers that lie in blocks of a law's own, as long as it only calls. -/
import Derived.Test.YtlgjbfkhajphdaaDoorIvC
import Derived.Deep.RegionHeld3
import Derived.Deep.DeepCutAuto
import Derived.Deep.DrawnRows
namespace Go.Proofs.YtlgjbfkhajphdaaDoor
open Go.RowKit Go.Iv
set_option linter.unusedSimpArgs false

/-- 1 pairs of numbers lie in blocks of the call's own; below M all is as it was. -/
@[reducible] def P1 (w0 : World) (M b0 : Nat) (x0 y0 : Int) (w : World) : Prop :=
  w.cell? ⟨b0, 0, none⟩ = some (.int .i64 x0) ∧ w.cell? ⟨b0, 1, none⟩ = some (.int .i64 y0) ∧ Hid (Below M w0 w ∧ M ≤ w.heap.size ∧ b0 < w.heap.size)
theorem P1.drew {w0 w : World} {M b0 : Nat} {x0 y0 : Int} (h : P1 w0 M b0 x0 y0 w) : P1 w0 M b0 x0 y0 w.drew := by
  obtain ⟨p0, q0, k⟩ := h
  exact ⟨p0, q0, (unhide k).1.drew, (unhide k).2⟩
theorem P1.call {w0 w w1 : World} {M b0 : Nat} {x0 y0 : Int} (hb : Below w.heap.size w w1) (h : P1 w0 M b0 x0 y0 w) : P1 w0 M b0 x0 y0 w1 := by
  obtain ⟨p0, q0, k⟩ := h
  obtain ⟨e, f, s0⟩ := unhide k
  have g := hb.size
  exact ⟨(hb.cell (by exact s0)).trans p0, (hb.cell (by exact s0)).trans q0, e.trans (hb.mono f), by omega, by omega⟩
theorem P1.alloc {w0 w : World} {M b0 : Nat} {x0 y0 : Int} (h : P1 w0 M b0 x0 y0 w) (o : Obj) : P1 w0 M b0 x0 y0 (w.alloc o) :=
  P1.call ((Below.refl _ _).alloc (Nat.le_refl _) o) h
/-- 2 pairs of numbers lie in blocks of the call's own; below M all is as it was. -/
@[reducible] def P2 (w0 : World) (M b0 b1 : Nat) (x0 y0 x1 y1 : Int) (w : World) : Prop :=
  w.cell? ⟨b0, 0, none⟩ = some (.int .i64 x0) ∧ w.cell? ⟨b0, 1, none⟩ = some (.int .i64 y0) ∧ w.cell? ⟨b1, 0, none⟩ = some (.int .i64 x1) ∧ w.cell? ⟨b1, 1, none⟩ = some (.int .i64 y1) ∧ Hid (Below M w0 w ∧ M ≤ w.heap.size ∧ b0 < w.heap.size ∧ b1 < w.heap.size)
theorem P2.drew {w0 w : World} {M b0 b1 : Nat} {x0 y0 x1 y1 : Int} (h : P2 w0 M b0 b1 x0 y0 x1 y1 w) : P2 w0 M b0 b1 x0 y0 x1 y1 w.drew := by
  obtain ⟨p0, q0, p1, q1, k⟩ := h
  exact ⟨p0, q0, p1, q1, (unhide k).1.drew, (unhide k).2⟩
theorem P2.call {w0 w w1 : World} {M b0 b1 : Nat} {x0 y0 x1 y1 : Int} (hb : Below w.heap.size w w1) (h : P2 w0 M b0 b1 x0 y0 x1 y1 w) : P2 w0 M b0 b1 x0 y0 x1 y1 w1 := by
  obtain ⟨p0, q0, p1, q1, k⟩ := h
  obtain ⟨e, f, s0, s1⟩ := unhide k
  have g := hb.size
  exact ⟨(hb.cell (by exact s0)).trans p0, (hb.cell (by exact s0)).trans q0, (hb.cell (by exact s1)).trans p1, (hb.cell (by exact s1)).trans q1, e.trans (hb.mono f), by omega, by omega, by omega⟩
theorem P2.alloc {w0 w : World} {M b0 b1 : Nat} {x0 y0 x1 y1 : Int} (h : P2 w0 M b0 b1 x0 y0 x1 y1 w) (o : Obj) : P2 w0 M b0 b1 x0 y0 x1 y1 (w.alloc o) :=
  P2.call ((Below.refl _ _).alloc (Nat.le_refl _) o) h
/-- 3 pairs of numbers lie in blocks of the call's own; below M all is as it was. -/
@[reducible] def P3 (w0 : World) (M b0 b1 b2 : Nat) (x0 y0 x1 y1 x2 y2 : Int) (w : World) : Prop :=
  w.cell? ⟨b0, 0, none⟩ = some (.int .i64 x0) ∧ w.cell? ⟨b0, 1, none⟩ = some (.int .i64 y0) ∧ w.cell? ⟨b1, 0, none⟩ = some (.int .i64 x1) ∧ w.cell? ⟨b1, 1, none⟩ = some (.int .i64 y1) ∧ w.cell? ⟨b2, 0, none⟩ = some (.int .i64 x2) ∧ w.cell? ⟨b2, 1, none⟩ = some (.int .i64 y2) ∧ Hid (Below M w0 w ∧ M ≤ w.heap.size ∧ b0 < w.heap.size ∧ b1 < w.heap.size ∧ b2 < w.heap.size)
theorem P3.drew {w0 w : World} {M b0 b1 b2 : Nat} {x0 y0 x1 y1 x2 y2 : Int} (h : P3 w0 M b0 b1 b2 x0 y0 x1 y1 x2 y2 w) : P3 w0 M b0 b1 b2 x0 y0 x1 y1 x2 y2 w.drew := by
  obtain ⟨p0, q0, p1, q1, p2, q2, k⟩ := h
  exact ⟨p0, q0, p1, q1, p2, q2, (unhide k).1.drew, (unhide k).2⟩
theorem P3.call {w0 w w1 : World} {M b0 b1 b2 : Nat} {x0 y0 x1 y1 x2 y2 : Int} (hb : Below w.heap.size w w1) (h : P3 w0 M b0 b1 b2 x0 y0 x1 y1 x2 y2 w) : P3 w0 M b0 b1 b2 x0 y0 x1 y1 x2 y2 w1 := by
  obtain ⟨p0, q0, p1, q1, p2, q2, k⟩ := h
  obtain ⟨e, f, s0, s1, s2⟩ := unhide k
  have g := hb.size
  exact ⟨(hb.cell (by exact s0)).trans p0, (hb.cell (by exact s0)).trans q0, (hb.cell (by exact s1)).trans p1, (hb.cell (by exact s1)).trans q1, (hb.cell (by exact s2)).trans p2, (hb.cell (by exact s2)).trans q2, e.trans (hb.mono f), by omega, by omega, by omega, by omega⟩
theorem P3.alloc {w0 w : World} {M b0 b1 b2 : Nat} {x0 y0 x1 y1 x2 y2 : Int} (h : P3 w0 M b0 b1 b2 x0 y0 x1 y1 x2 y2 w) (o : Obj) : P3 w0 M b0 b1 b2 x0 y0 x1 y1 x2 y2 (w.alloc o) :=
  P3.call ((Below.refl _ _).alloc (Nat.le_refl _) o) h
/-- 4 pairs of numbers lie in blocks of the call's own; below M all is as it was. -/
@[reducible] def P4 (w0 : World) (M b0 b1 b2 b3 : Nat) (x0 y0 x1 y1 x2 y2 x3 y3 : Int) (w : World) : Prop :=
  w.cell? ⟨b0, 0, none⟩ = some (.int .i64 x0) ∧ w.cell? ⟨b0, 1, none⟩ = some (.int .i64 y0) ∧ w.cell? ⟨b1, 0, none⟩ = some (.int .i64 x1) ∧ w.cell? ⟨b1, 1, none⟩ = some (.int .i64 y1) ∧ w.cell? ⟨b2, 0, none⟩ = some (.int .i64 x2) ∧ w.cell? ⟨b2, 1, none⟩ = some (.int .i64 y2) ∧ w.cell? ⟨b3, 0, none⟩ = some (.int .i64 x3) ∧ w.cell? ⟨b3, 1, none⟩ = some (.int .i64 y3) ∧ Hid (Below M w0 w ∧ M ≤ w.heap.size ∧ b0 < w.heap.size ∧ b1 < w.heap.size ∧ b2 < w.heap.size ∧ b3 < w.heap.size)
theorem P4.drew {w0 w : World} {M b0 b1 b2 b3 : Nat} {x0 y0 x1 y1 x2 y2 x3 y3 : Int} (h : P4 w0 M b0 b1 b2 b3 x0 y0 x1 y1 x2 y2 x3 y3 w) : P4 w0 M b0 b1 b2 b3 x0 y0 x1 y1 x2 y2 x3 y3 w.drew := by
  obtain ⟨p0, q0, p1, q1, p2, q2, p3, q3, k⟩ := h
  exact ⟨p0, q0, p1, q1, p2, q2, p3, q3, (unhide k).1.drew, (unhide k).2⟩
theorem P4.call {w0 w w1 : World} {M b0 b1 b2 b3 : Nat} {x0 y0 x1 y1 x2 y2 x3 y3 : Int} (hb : Below w.heap.size w w1) (h : P4 w0 M b0 b1 b2 b3 x0 y0 x1 y1 x2 y2 x3 y3 w) : P4 w0 M b0 b1 b2 b3 x0 y0 x1 y1 x2 y2 x3 y3 w1 := by
  obtain ⟨p0, q0, p1, q1, p2, q2, p3, q3, k⟩ := h
  obtain ⟨e, f, s0, s1, s2, s3⟩ := unhide k
  have g := hb.size
  exact ⟨(hb.cell (by exact s0)).trans p0, (hb.cell (by exact s0)).trans q0, (hb.cell (by exact s1)).trans p1, (hb.cell (by exact s1)).trans q1, (hb.cell (by exact s2)).trans p2, (hb.cell (by exact s2)).trans q2, (hb.cell (by exact s3)).trans p3, (hb.cell (by exact s3)).trans q3, e.trans (hb.mono f), by omega, by omega, by omega, by omega, by omega⟩
theorem P4.alloc {w0 w : World} {M b0 b1 b2 b3 : Nat} {x0 y0 x1 y1 x2 y2 x3 y3 : Int} (h : P4 w0 M b0 b1 b2 b3 x0 y0 x1 y1 x2 y2 x3 y3 w) (o : Obj) : P4 w0 M b0 b1 b2 b3 x0 y0 x1 y1 x2 y2 x3 y3 (w.alloc o) :=
  P4.call ((Below.refl _ _).alloc (Nat.le_refl _) o) h
theorem P1.new {w0 w : World} {M : Nat} (k : Below M w0 w) (hm : M ≤ w.heap.size) (x0 y0 : Int) (t : TypeId) : P1 w0 M w.heap.size x0 y0 (w.alloc (.cells #[.int .i64 x0, .int .i64 y0] t)) :=
  ⟨by simp, by simp, k.alloc hm _, by simp; omega, by simp⟩
theorem P2.new {w0 w : World} {M b0 : Nat} {x0 y0 : Int} (h : P1 w0 M b0 x0 y0 w) (x1 y1 : Int) (t : TypeId) : P2 w0 M b0 w.heap.size x0 y0 x1 y1 (w.alloc (.cells #[.int .i64 x1, .int .i64 y1] t)) := by
  have h' := h.alloc (.cells #[.int .i64 x1, .int .i64 y1] t)
  obtain ⟨p0, q0, k⟩ := h'
  obtain ⟨e, f, s0⟩ := unhide k
  exact ⟨p0, q0, by simp, by simp, e, f, s0, by simp⟩
theorem P3.new {w0 w : World} {M b0 b1 : Nat} {x0 y0 x1 y1 : Int} (h : P2 w0 M b0 b1 x0 y0 x1 y1 w) (x2 y2 : Int) (t : TypeId) : P3 w0 M b0 b1 w.heap.size x0 y0 x1 y1 x2 y2 (w.alloc (.cells #[.int .i64 x2, .int .i64 y2] t)) := by
  have h' := h.alloc (.cells #[.int .i64 x2, .int .i64 y2] t)
  obtain ⟨p0, q0, p1, q1, k⟩ := h'
  obtain ⟨e, f, s0, s1⟩ := unhide k
  exact ⟨p0, q0, p1, q1, by simp, by simp, e, f, s0, s1, by simp⟩
theorem P4.new {w0 w : World} {M b0 b1 b2 : Nat} {x0 y0 x1 y1 x2 y2 : Int} (h : P3 w0 M b0 b1 b2 x0 y0 x1 y1 x2 y2 w) (x3 y3 : Int) (t : TypeId) : P4 w0 M b0 b1 b2 w.heap.size x0 y0 x1 y1 x2 y2 x3 y3 (w.alloc (.cells #[.int .i64 x3, .int .i64 y3] t)) := by
  have h' := h.alloc (.cells #[.int .i64 x3, .int .i64 y3] t)
  obtain ⟨p0, q0, p1, q1, p2, q2, k⟩ := h'
  obtain ⟨e, f, s0, s1, s2⟩ := unhide k
  exact ⟨p0, q0, p1, q1, p2, q2, by simp, by simp, e, f, s0, s1, s2, by simp⟩
end Go.Proofs.YtlgjbfkhajphdaaDoor
