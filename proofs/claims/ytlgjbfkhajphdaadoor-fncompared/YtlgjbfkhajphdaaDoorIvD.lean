/- The laws' own helpers on intervals; the specification's meet. -/
import Derived.Test.YtlgjbfkhajphdaaDoorIvC
import Derived.Deep.RegionHeld3
import Derived.Deep.DeepCutAuto
import Derived.Deep.DrawnRows
namespace Go.Proofs.YtlgjbfkhajphdaaDoor
open Go.RowKit Go.Iv
set_option linter.unusedSimpArgs false

/-- Two pairs of numbers lie in the blocks B and B + 1 of the call's own; below M all is as it was. -/
@[reducible] def S2 (w0 : World) (M B : Nat) (x0 y0 x1 y1 : Int) (w : World) : Prop :=
  w.cell? ⟨B, 0, none⟩ = some (.int .i64 x0) ∧ w.cell? ⟨B, 1, none⟩ = some (.int .i64 y0) ∧ w.cell? ⟨B + 1, 0, none⟩ = some (.int .i64 x1) ∧ w.cell? ⟨B + 1, 1, none⟩ = some (.int .i64 y1) ∧ Below M w0 w ∧ M ≤ w.heap.size ∧ B + 2 ≤ w.heap.size
theorem S2.drew {w0 w : World} {M B : Nat} {x0 y0 x1 y1 : Int} (h : S2 w0 M B x0 y0 x1 y1 w) : S2 w0 M B x0 y0 x1 y1 w.drew := ⟨h.1, h.2.1, h.2.2.1, h.2.2.2.1, h.2.2.2.2.1.drew, h.2.2.2.2.2⟩
theorem S2.call {w0 w w1 : World} {M B : Nat} {x0 y0 x1 y1 : Int} (hb : Below w.heap.size w w1) (h : S2 w0 M B x0 y0 x1 y1 w) : S2 w0 M B x0 y0 x1 y1 w1 := by
  obtain ⟨a, b, c, d, e, f, k⟩ := h
  have g := hb.size
  exact ⟨(hb.cell (by show B < _; omega)).trans a, (hb.cell (by show B < _; omega)).trans b, (hb.cell (by show B + 1 < _; omega)).trans c, (hb.cell (by show B + 1 < _; omega)).trans d, e.trans (hb.mono f), by omega, by omega⟩
theorem S2.alloc {w0 w : World} {M B : Nat} {x0 y0 x1 y1 : Int} (h : S2 w0 M B x0 y0 x1 y1 w) (o : Obj) : S2 w0 M B x0 y0 x1 y1 (w.alloc o) :=
  S2.call ((Below.refl _ _).alloc (Nat.le_refl _) o) h
theorem S2.set {w0 w : World} {M B b o : Nat} {x0 y0 x1 y1 : Int} (h : S2 w0 M B x0 y0 x1 y1 w) (hb : B + 2 ≤ b) (hm : M ≤ b) (v : Value) : S2 w0 M B x0 y0 x1 y1 (w.setCell ⟨b, o, none⟩ v) := by
  have k : Below b w (w.setCell ⟨b, o, none⟩ v) := (Below.refl b w).setCell (p := ⟨b, o, none⟩) (Nat.le_refl _) v
  obtain ⟨a, b, c, d, e, f, g⟩ := h
  exact ⟨(k.cell (by show B < _; omega)).trans a, (k.cell (by show B < _; omega)).trans b, (k.cell (by show B + 1 < _; omega)).trans c, (k.cell (by show B + 1 < _; omega)).trans d, e.trans (k.mono hm), Nat.le_trans f k.size, Nat.le_trans g k.size⟩
/-- A pair that was stored lies there. -/
theorem set2_at {w : World} {b : Nat} {v0 v1 x y : Value} (h0 : w.cell? ⟨b, 0, none⟩ = some v0) (h1 : w.cell? ⟨b, 1, none⟩ = some v1) :
    ((w.setCell ⟨b, 0, none⟩ x).setCell ⟨b, 1, none⟩ y).cell? ⟨b, 0, none⟩ = some x ∧ ((w.setCell ⟨b, 0, none⟩ x).setCell ⟨b, 1, none⟩ y).cell? ⟨b, 1, none⟩ = some y ∧ b < ((w.setCell ⟨b, 0, none⟩ x).setCell ⟨b, 1, none⟩ y).heap.size := by
  have hlt := World.block_lt_of_cell? w _ h0
  refine ⟨?_, ?_, ?_⟩
  · simp [go_sem, h0, h1]
  · simp [go_sem, h0, h1]
  · simpa [World.setCell] using hlt

/-- An answer of two numbers lies in a block of its own beside the two pairs. -/
def Res2 (w0 : World) (M B : Nat) (x0 y0 x1 y1 : Int) (p : Value) (x y : Int) (w : World) : Prop :=
  ∃ b, p = .pointer (some ⟨b, 0, none⟩) ∧ (w.cell? ⟨b, 0, none⟩ = some (.int .i64 x) ∧ w.cell? ⟨b, 1, none⟩ = some (.int .i64 y)) ∧ B + 2 ≤ b ∧ b < w.heap.size ∧ S2 w0 M B x0 y0 x1 y1 w
theorem Res2.new {w0 w : World} {M B : Nat} {x0 y0 x1 y1 : Int} (h : S2 w0 M B x0 y0 x1 y1 w) (x y : Int) (t : TypeId) :
    Res2 w0 M B x0 y0 x1 y1 (.pointer (some ⟨w.heap.size, 0, none⟩)) x y (w.alloc (.cells #[.int .i64 x, .int .i64 y] t)) :=
  ⟨_, rfl, ⟨by simp, by simp⟩, h.2.2.2.2.2.2, by simp, S2.alloc h _⟩
theorem Res2.set {w0 w : World} {M B b : Nat} {x0 y0 x1 y1 : Int} {v0 v1 : Value} (h : S2 w0 M B x0 y0 x1 y1 w) (hb : B + 2 ≤ b) (hm : M ≤ b) (h0 : w.cell? ⟨b, 0, none⟩ = some v0) (h1 : w.cell? ⟨b, 1, none⟩ = some v1) (x y : Int) :
    Res2 w0 M B x0 y0 x1 y1 (.pointer (some ⟨b, 0, none⟩)) x y ((w.setCell ⟨b, 0, none⟩ (.int .i64 x)).setCell ⟨b, 1, none⟩ (.int .i64 y)) :=
  ⟨b, rfl, ⟨(set2_at h0 h1).1, (set2_at h0 h1).2.1⟩, hb, (set2_at h0 h1).2.2, S2.set (S2.set h hb hm _) hb hm _⟩

theorem toInterval_c (l h : Int) (w : World) : Calls Tryd.prog 10 #[.agg #[.int .i64 l, .int .i64 h]] w fun e w' => e = .returned (.agg #[.int .i64 l, .int .i64 h]) ∧ ∃ o1 o2 o3, w' = ((w.alloc o1).alloc o2).alloc o3 := by
  go_enter Tryd.func10, Tryd.ntmps10
  go_wp2
  exact bodyPost_ret (v := .agg #[.int .i64 l, .int .i64 h]) (by simp [results, Tryd.results10, go_sem]) rfl ⟨rfl, _, _, _, rfl⟩
theorem eqInterval_c (l h : Int) (w : World) : Calls Tryd.prog 11 #[.agg #[.int .i64 l, .int .i64 h], .agg #[.int .i64 l, .int .i64 h]] w fun e w' => e = .returned (.bool true) ∧ Below w.heap.size w w' := by
  go_enter Tryd.func11, Tryd.ntmps11
  go_wp2
  go_ret
  exact ⟨rfl, ((Below.refl _ _).alloc (Nat.le_refl _) _).alloc (by simp) _⟩
end Go.Proofs.YtlgjbfkhajphdaaDoor
