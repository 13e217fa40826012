/- Texts cut at a byte: the specification's. -/
import Derived.Test.YtppchebikafmeaaDoorTxtD
import Derived.Deep.DeepCutAuto
namespace Go.Proofs.YtppchebikafmeaaDoor
open Go.RowKit
set_option linter.unusedSimpArgs false
set_option linter.unusedVariables false

/-- No blank ahead of a place. -/
def NoB (c : Int) (s : ByteArray) (k : Nat) : Prop := ∀ i, (h : i < s.size) → i < k → ¬ ((s[i].toNat : Int) = c)
/-- How a text is cut at its first blank. -/
def CutE (c : Int) (s : ByteArray) (e : Ending) : Prop := (∃ k : Nat, ∃ h : k < s.size, NoB c s k ∧ (s[k].toNat : Int) = c ∧ e = .returned (.tuple #[.string (s.extract 0 k), .string (s.extract (k + 1) s.size), .bool true])) ∨ (NoB c s s.size ∧ e = .returned (.tuple #[.string s, .string ⟨#[]⟩, .bool false]))
set_option maxRecDepth 20000 in
set_option maxHeartbeats 4000000 in
theorem l1Cut_c (c : Int) (s : ByteArray) (hs : s.size ≤ 1048576) (w : World) : Calls Tryd.prog 30 #[.string s, .int .u8 c] w fun e w' => CutE c s e ∧ Below w.heap.size w w' := by
  have hs' : (s.size : Int) ≤ 1048576 := by omega
  go_enter Tryd.func30, Tryd.ntmps30
  go_wp2
  go_loop [7] (fun i => ∃ k : Nat, k ≤ s.size ∧ i = .int .i64 k ∧ NoB c s k) (fun i => s.size - (intOf i).toNat)
  case atStart => exact ⟨0, Nat.zero_le _, rfl, fun i _ h => by omega⟩
  case round =>
    obtain ⟨k, hk, rfl, hall⟩ := hrel
    have HA := hide hall
    clear hall
    by_cases hlt : k < s.size
    · by_cases hb : (s[k].toNat : Int) = c
      · have hlt' : (k : Int) < (s.size : Int) := by omega
        have z1 : (k : Int) ≤ (s.size : Int) := by omega
        have z2 : (k : Int) + 1 ≤ (s.size : Int) := by omega
        have z3 : 0 ≤ (k : Int) + 1 := by omega
        have z4 : IntKind.i64.wrap ((k : Int) + 1) = (k : Int) + 1 := by rw [IntKind.wrap_i64]; omega
        have z5 : wrap64 ((k : Int) + 1) = (k : Int) + 1 := by unfold wrap64; omega
        go_wp2
        go_region_held3 (fun u => Below w.heap.size w u)
          (first | exact (Below.refl _ _).drew | assumption)
          (fail)
        all_goals
          go_wp2
          exact bodyPost_ret (v := .tuple #[.string (s.extract 0 k), .string (s.extract (k + 1) s.size), .bool true]) (by simp [results, Tryd.results30, go_sem]) rfl ⟨.inl ⟨k, hlt, unhide HA, hb, rfl⟩, by assumption⟩
      · go_wp2
        go_round
        case rel =>
          refine ⟨k + 1, by omega, by go_num, fun i h hi => ?_⟩
          by_cases e : i = k
          · subst e; exact hb
          · exact unhide HA i h (by omega)
        case measure => simp [intOf]; omega
    · go_wp2
      have e : k = s.size := by omega
      exact bodyPost_ret (v := .tuple #[.string s, .string ⟨#[]⟩, .bool false]) (by simp [results, Tryd.results30, go_sem]) rfl ⟨.inr ⟨by rw [← e]; exact unhide HA, rfl⟩, Below.refl _ _⟩
end Go.Proofs.YtppchebikafmeaaDoor
