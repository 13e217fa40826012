/- A pair and an answer of four cells, kept over calls; what an interval turned is. -/
import Derived.Test.YtiaejoompboclaaSpE
import Derived.Test.YtiaejoompboclaaValC
import Derived.Deep.RegionHeld3
import Derived.Deep.DeepCutAuto
import Derived.Deep.DrawnRows
namespace Go.Proofs.Ytiaejoompboclaa
open Go.RowKit Go.Iv
set_option linter.unusedSimpArgs false

@[reducible] def SN (w0 : World) (M A b : Nat) (l g x y : Int) (z : Bool) (u : Int) (w : World) : Prop :=
  w.cell? ⟨A, 0, none⟩ = some (.int .i64 l) ∧ w.cell? ⟨A, 1, none⟩ = some (.int .i64 g) ∧ w.cell? ⟨b, 0, none⟩ = some (.int .i64 x) ∧ w.cell? ⟨b, 1, none⟩ = some (.int .i64 y) ∧ w.cell? ⟨b, 2, none⟩ = some (.bool z) ∧ w.cell? ⟨b, 3, none⟩ = some (.int .i64 u) ∧ Hid (Below M w0 w ∧ M ≤ w.heap.size ∧ A < w.heap.size ∧ b < w.heap.size)
theorem SN.drew {w0 w : World} {M A b : Nat} {l g x y : Int} {z : Bool} {u : Int} (h : SN w0 M A b l g x y z u w) : SN w0 M A b l g x y z u w.drew :=
  ⟨h.1, h.2.1, h.2.2.1, h.2.2.2.1, h.2.2.2.2.1, h.2.2.2.2.2.1, hide ⟨(unhide h.2.2.2.2.2.2).1.drew, (unhide h.2.2.2.2.2.2).2⟩⟩
theorem SN.call {w0 w w1 : World} {M A b : Nat} {l g x y : Int} {z : Bool} {u : Int} (hb : Below w.heap.size w w1) (h : SN w0 M A b l g x y z u w) : SN w0 M A b l g x y z u w1 := by
  obtain ⟨a0, a1, b0, b1, b2, b3, r⟩ := h
  obtain ⟨k, s, ha, hbb⟩ := unhide r
  have g := hb.size
  exact ⟨(hb.cell (by exact ha)).trans a0, (hb.cell (by exact ha)).trans a1, (hb.cell (by exact hbb)).trans b0, (hb.cell (by exact hbb)).trans b1, (hb.cell (by exact hbb)).trans b2, (hb.cell (by exact hbb)).trans b3, hide ⟨k.trans (hb.mono s), by omega, by omega, by omega⟩⟩
theorem neg_val (l g : Int) (hl : In l) (hg : In g) (h : l ≤ g) (hm : l ≠ -9223372036854775808) : corV (fun x y => x - y) 0 0 l g = ⟨-g, -l, true, 0⟩ := by
  unfold In at hl hg
  unfold corV
  rw [if_pos ⟨Int.le_refl _, h⟩]
  have e1 : minL (0 - l) [0 - g, 0 - l, 0 - g] = -g := by simp only [minL]; omega
  have e2 : maxL (0 - l) [0 - g, 0 - l, 0 - g] = -l := by simp only [maxL]; omega
  show span (minL (0 - l) [0 - g, 0 - l, 0 - g]) (maxL (0 - l) [0 - g, 0 - l, 0 - g]) = _
  rw [e1, e2]
  unfold span
  rw [if_neg (by omega), if_neg (by omega)]
  congr 1 <;> omega
end Go.Proofs.Ytiaejoompboclaa
