/- Names, as the specification asks for them. -/
import Derived.Test.YthldhjifnpfmiaaGreatDoorNaZ
namespace Go.Proofs.YthldhjifnpfmiaaGreatDoor
open Go.RowKit
set_option linter.unusedSimpArgs false

def allL (s : ByteArray) : Bool := s.data.toList.all fun c => letB (c.toNat : Int)
theorem allL_yes (s : ByteArray) (h : ∀ i, (hi : i < s.size) → letB (s[i].toNat : Int) = true) : allL s = true := by
  unfold allL
  rw [List.all_eq_true]
  intro c hc
  obtain ⟨i, hi, rfl⟩ := List.getElem_of_mem hc
  exact h i (by simpa using hi)
theorem allL_no (s : ByteArray) (k : Nat) (hk : k < s.size) (h : letB (s[k].toNat : Int) = false) : allL s = false := by
  unfold allL
  rw [List.all_eq_false]
  exact ⟨s[k], by show s.data[k] ∈ s.data.toList; simp, by simp [h]⟩
/-- What is a name. -/
def nameB (s : ByteArray) : Bool := allL s && (inB s.size 1 8 && !keyB s)
theorem let_cases (c : Int) : letB c = true ∧ 97 ≤ c ∧ c ≤ 122 ∨ letB c = false ∧ (c < 97 ∨ 122 < c) := by
  unfold letB
  by_cases h : 97 ≤ c ∧ c ≤ 122
  · exact .inl ⟨decide_eq_true h, h⟩
  · exact .inr ⟨decide_eq_false h, by omega⟩
set_option maxHeartbeats 1000000 in
theorem l3Name_c (s : ByteArray) (hs : s.size ≤ 1048576) (w : World) : Calls Tryz.prog 71 #[.string s] w fun e w' => e = .returned (.bool (nameB s)) ∧ Below w.heap.size w w' := by
  have hs' : (s.size : Int) ≤ 1048576 := by omega
  go_enter Tryz.func71, Tryz.ntmps71
  go_wp2
  go_loop [3] (fun i => ∃ k : Nat, k ≤ s.size ∧ i = .int .i64 k ∧ ∀ i, (h : i < s.size) → i < k → letB (s[i].toNat : Int) = true) (fun i => s.size - (intOf i).toNat)
  case atStart => exact ⟨0, Nat.zero_le _, rfl, fun i _ h => by omega⟩
  case round =>
    obtain ⟨k, hk, rfl, hall⟩ := hrel
    have HA := hide hall
    clear hall
    by_cases hlt : k < s.size
    · rcases let_cases (s[k].toNat : Int) with ⟨hb, h1, h2⟩ | ⟨hb, h1⟩
      · have HB := hide hb
        clear hb
        go_wp2
        go_round
        case rel =>
          refine ⟨k + 1, by omega, by go_num, fun i h hi => ?_⟩
          by_cases e : i = k
          · subst e; exact unhide HB
          · exact unhide HA i h (by omega)
        case measure => simp [intOf]; omega
      · have HN := hide (show nameB s = false by unfold nameB; rw [allL_no s k hlt hb]; rfl)
        clear hb
        rcases h1 with h1 | h1
        · go_wp2
          go_ret
          exact ⟨by rw [unhide HN]; rfl, Below.refl _ _⟩
        · have h2 : ¬ (s[k].toNat : Int) < 97 := by omega
          go_wp2
          go_ret
          exact ⟨by rw [unhide HN]; rfl, Below.refl _ _⟩
    · have HL := hide (show nameB s = (inB s.size 1 8 && !keyB s) by unfold nameB; rw [allL_yes s (fun i h => unhide HA i h (by omega))]; rfl)
      cases hi : inB (s.size : Int) 1 8
      · rw [hi] at HL
        go_wp2_with (go_at_call 55; refine (l1In_c _ _ _ _).mono ?_; rintro e w' ⟨rfl, rfl⟩)
        go_ret
        exact ⟨by rw [unhide HL]; rfl, Below.refl _ _⟩
      · rw [hi] at HL
        go_wp2_with fail
        refine (l1In_c _ _ _ _).mono ?_
        rintro e w' ⟨rfl, rfl⟩
        go_wp2_with fail
        refine (l3Key_c _ _).mono ?_
        rintro e w1 ⟨rfl, hb⟩
        have K := hide hb
        clear hb
        go_wp2
        go_ret
        exact ⟨by rw [unhide HL]; rfl, unhide K⟩
end Go.Proofs.YthldhjifnpfmiaaGreatDoor
