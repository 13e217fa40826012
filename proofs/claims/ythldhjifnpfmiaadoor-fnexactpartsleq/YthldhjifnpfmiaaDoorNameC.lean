/- Names: letters, and how many there are at the start of a text. -/
import Derived.Test.YthldhjifnpfmiaaDoorRows
import Derived.WalkKit
import Derived.Deep.QuietTactic
import Derived.Deep.LoopGhost
import Derived.WalkSpells
namespace Go.Proofs.YthldhjifnpfmiaaDoor
open Go.RowKit
set_option linter.unusedSimpArgs false

theorem hide {p : Prop} (h : p) : Hid p := h
theorem unhide {p : Prop} (h : Hid p) : p := h
def letB (c : Int) : Bool := decide (97 ≤ c ∧ c ≤ 122)
theorem isLetter_c (c : Int) (w : World) : Calls Tryd.prog 79 #[.int .u8 c] w fun e w' => e = .returned (.bool (letB c)) ∧ w' = w := by
  by_cases h : 97 ≤ c
  · have H : Hid (letB c = decide (c ≤ 122)) := decide_eq_decide.2 ⟨fun k => k.2, fun k => ⟨h, k⟩⟩
    go_enter Tryd.func79, Tryd.ntmps79
    go_wp2
    go_ret
    exact ⟨by rw [H.out]; rfl, rfl⟩
  · have H : Hid (letB c = false) := decide_eq_false (fun k => h k.1)
    go_enter Tryd.func79, Tryd.ntmps79
    go_wp2
    go_ret
    exact ⟨by rw [H.out]; rfl, rfl⟩
def inB (n lo hi : Int) : Bool := decide (lo ≤ n ∧ n ≤ hi)
theorem l1In_c (n lo hi : Int) (w : World) : Calls Tryd.prog 50 #[.int .i64 n, .int .i64 lo, .int .i64 hi] w fun e w' => e = .returned (.bool (inB n lo hi)) ∧ w' = w := by
  by_cases h : lo ≤ n
  · have H : Hid (inB n lo hi = decide (n ≤ hi)) := decide_eq_decide.2 ⟨fun k => k.2, fun k => ⟨h, k⟩⟩
    go_enter Tryd.func50, Tryd.ntmps50
    go_wp2
    go_ret
    exact ⟨by rw [H.out]; rfl, rfl⟩
  · have H : Hid (inB n lo hi = false) := decide_eq_false (fun k => h k.1)
    go_enter Tryd.func50, Tryd.ntmps50
    go_wp2
    go_ret
    exact ⟨by rw [H.out]; rfl, rfl⟩
/-- n bytes at the start are letters, and no more. -/
def RunN (s : ByteArray) (n : Nat) : Prop := n ≤ s.size ∧ (∀ i, (h : i < s.size) → i < n → letB (s[i].toNat : Int) = true) ∧ (n = s.size ∨ ∃ h : n < s.size, letB (s[n].toNat : Int) = false)
set_option maxHeartbeats 400000 in
theorem runOf_c (s : ByteArray) (hs : s.size ≤ 1048576) (w : World) : Calls Tryd.prog 78 #[.string s, .func (.func 79) #[] #[]] w fun e w' => ∃ n : Nat, e = .returned (.int .i64 n) ∧ RunN s n ∧ w' = w := by
  have hs' : (s.size : Int) ≤ 1048576 := by omega
  go_enter Tryd.func78, Tryd.ntmps78
  go_wp2
  go_loop [5] (fun i => ∃ k : Nat, k ≤ s.size ∧ i = .int .i64 k ∧ ∀ i, (h : i < s.size) → i < k → letB (s[i].toNat : Int) = true) (fun i => s.size - (intOf i).toNat)
  case atStart => exact ⟨0, Nat.zero_le _, rfl, fun i _ h => by omega⟩
  case round =>
    obtain ⟨k, hk, rfl, hall⟩ := hrel
    have HA := hide hall
    clear hall
    by_cases hlt : k < s.size
    · cases hb : letB (s[k].toNat : Int)
      · go_wp2_with (go_at_call 79; refine (isLetter_c _ _).mono ?_; rintro e w' ⟨rfl, rfl⟩)
        go_ret
        exact ⟨k, rfl, ⟨hk, unhide HA, .inr ⟨hlt, hb⟩⟩, rfl⟩
      · go_wp2_with (go_at_call 79; refine (isLetter_c _ _).mono ?_; rintro e w' ⟨rfl, rfl⟩)
        go_round
        case rel =>
          refine ⟨k + 1, by omega, by go_num, fun i h hi => ?_⟩
          by_cases e : i = k
          · subst e; exact hb
          · exact unhide HA i h (by omega)
        case measure => simp [intOf]; omega
    · go_wp2
      go_ret
      exact ⟨k, rfl, ⟨hk, unhide HA, .inl (by omega)⟩, rfl⟩
end Go.Proofs.YthldhjifnpfmiaaDoor
