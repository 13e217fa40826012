/- Marks in a row of numbers. -/
import Derived.Test.YthpnbmdmkmkicaaDoorMaZ
namespace Go.Proofs.YthpnbmdmkmkicaaDoor
open Go.RowKit
set_option linter.unusedSimpArgs false
set_option linter.unusedVariables false

theorem OwnI.wr {w : World} {b : Nat} {xs : List Int} (h : OwnI w b xs) : Wr w b xs.length := by
  refine ⟨fun o ho => ?_, h.2.1, h.2.2⟩
  rcases h.1.2 with h0 | ⟨cb, co, he, hc⟩
  · omega
  · obtain ⟨rfl, rfl⟩ : b = cb ∧ 0 = co := by injection he with q; injection q with q1 q2; exact ⟨q1, q2⟩
    have := hc o ho
    rw [Nat.zero_add] at this
    exact ⟨_, this⟩
theorem OwnI.mid {w w' : World} {b lo hi : Nat} {xs : List Int} (h : OwnI w b xs) (k : Mid lo hi w w') (ho : b < lo ∨ hi ≤ b) : OwnI w' b xs := by
  refine ⟨⟨h.1.1, ?_⟩, fun o => (k.frozen h.2.2 ho).trans (h.2.1 o), Nat.lt_of_lt_of_le h.2.2 k.size⟩
  rcases h.1.2 with h0 | ⟨cb, co, he, hc⟩
  · exact .inl h0
  · obtain ⟨rfl, rfl⟩ : b = cb ∧ 0 = co := by injection he with q; injection q with q1 q2; exact ⟨q1, q2⟩
    exact .inr ⟨b, 0, rfl, fun i hi => (k.cell h.2.2 ho).trans (hc i hi)⟩
end Go.Proofs.YthpnbmdmkmkicaaDoor
