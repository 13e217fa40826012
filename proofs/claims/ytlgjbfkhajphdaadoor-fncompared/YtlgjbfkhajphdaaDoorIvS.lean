/- What is drawn of intervals, from a code: their ends fit. -/
import Derived.Test.YtlgjbfkhajphdaaDoorIvR
namespace Go.Proofs.YtlgjbfkhajphdaaDoor
open Go.RowKit Go.Iv
set_option linter.unusedSimpArgs false

theorem mn_in {x y : Int} (hx : In x) (hy : In y) : In (mn x y) := by unfold mn; split <;> assumption
theorem mx_in {x y : Int} (hx : In x) (hy : In y) : In (mx x y) := by unfold mx; split <;> assumption
theorem Left.call {b len cap : Nat} {a : Option Addr} {u w w' : World} (h : Left b a len cap u w) (k : Below w.heap.size w w') : Left b a len cap u w' := by
  refine ⟨?_, ⟨k.os.trans h.2.os, k.tape.trans h.2.tape, k.output.trans h.2.output, Nat.le_trans h.2.size k.size, fun c hc hne => (k.block c (Nat.lt_of_lt_of_le hc h.2.size)).trans (h.2.block c hc hne)⟩⟩
  obtain ⟨⟨p, hp, hh⟩, hcode, hx⟩ := h.1
  exact ⟨⟨p, hp, (k.block _ h.1.lt).trans hh⟩, hcode.below k, hx⟩

end Go.Proofs.YtlgjbfkhajphdaaDoor
