/- Marks in a row of numbers. -/
import Derived.Test.YtnmpfnhjjbankaaDoorMarkD
namespace Go.Proofs.YtnmpfnhjjbankaaDoor
open Go.RowKit
set_option linter.unusedSimpArgs false
set_option linter.unusedVariables false

theorem OwnI.wr {w : World} {b : Nat} {xs : List Int} (h : OwnI w b xs) : Wr w b xs.length := by
  refine ⟨fun o ho => ?_, h.2.1, h.2.2⟩
  rcases h.1.2 with h0 | ⟨cb, co, he, hc⟩
  · omega
  · obtain ⟨rfl, rfl⟩ : b = cb ∧ 0 = co := by injection he with q; injection q with q1 q2; exact ⟨q1, q2⟩
    have := hc o ho
    rw [Nat.zero_add] at this
    exact ⟨_, this⟩
theorem OwnI.mid {w w' : World} {b lo hi : Nat} {xs : List Int} (h : OwnI w b xs) (k : Mid lo hi w w') (ho : b < lo ∨ hi ≤ b) : OwnI w' b xs := by
  refine ⟨⟨h.1.1, ?_⟩, fun o => (k.frozen h.2.2 ho).trans (h.2.1 o), Nat.lt_of_lt_of_le h.2.2 k.size⟩
  rcases h.1.2 with h0 | ⟨cb, co, he, hc⟩
  · exact .inl h0
  · obtain ⟨rfl, rfl⟩ : b = cb ∧ 0 = co := by injection he with q; injection q with q1 q2; exact ⟨q1, q2⟩
    exact .inr ⟨b, 0, rfl, fun i hi => (k.cell h.2.2 ho).trans (hc i hi)⟩
set_option maxHeartbeats 2000000 in
theorem markInt_c (g n c : Nat) (k : Int) (hk : 0 ≤ k ∧ k ≤ 549755813888) (hn : n ≤ 1048576) (w : World) (h : Wr w g n) : Calls Tryd.prog 40 #[.slice (some ⟨g, 0, none⟩) n c, .int .i64 k] w fun e w' => e = .returned (.int .i64 (k + n)) ∧ Mid g (g + 1) w w' := by
  have H0 := hide h
  have hn' : (n : Int) ≤ 1048576 := by omega
  clear h
  go_enter Tryd.func40, Tryd.ntmps40
  go_wp2
  go_loopw [1, 5] (fun kk i wr => ∃ j : Nat, j ≤ n ∧ kk = .int .i64 (k + j) ∧ i = .int .i64 j ∧ Wr wr g n ∧ Mid g (g + 1) w wr) (fun _ i _ => n - (intOf i).toNat)
  case atStart => exact ⟨0, Nat.zero_le _, by simp, rfl, unhide H0, Mid.refl _ _ _⟩
  case round =>
    obtain ⟨j, hj, rfl, rfl, hw, hd⟩ := hrel
    have HW := hide hw
    have HD := hide hd
    by_cases hlt : j < n
    · have e1 : wrap64 (k + ↑j + 1) = k + ↑j + 1 := by unfold wrap64; omega
      have e2 : wrap64 (k + ↑j) = k + ↑j := by unfold wrap64; omega
      obtain ⟨v0, h0⟩ := (unhide HW).1 j hlt
      have f0 := (unhide HW).2.1 j
      clear hw hd
      go_wp2
      go_roundw
      case rel => exact ⟨j + 1, by omega, by first | rfl | (congr 1; omega) | (simp; omega), by go_num, (unhide HW).set _ hlt, (unhide HD).set (Nat.le_refl _) (by omega) _⟩
      case measure => simp [intOf]; omega
    · obtain rfl : n = j := by omega
      clear hw hd
      go_wp2
      go_ret
      exact ⟨rfl, unhide HD⟩
end Go.Proofs.YtnmpfnhjjbankaaDoor
