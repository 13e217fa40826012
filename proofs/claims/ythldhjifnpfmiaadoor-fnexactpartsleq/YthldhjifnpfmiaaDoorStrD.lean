/- The library's Index and Contains over texts. -/
import Derived.Test.YthldhjifnpfmiaaDoorStrC
namespace Go.Proofs.YthldhjifnpfmiaaDoor
open Go.RowKit
set_option linter.unusedSimpArgs false

set_option maxHeartbeats 400000 in
theorem Index_c (a : Option Addr) (cap : Nat) (xs : List ByteArray) (s : ByteArray) (w : World) (h : Strs w a xs) : Calls Tryd.prog 80 #[.slice a xs.length cap, .string s] w fun e w' => e = .returned (.int .i64 (plc s xs)) ∧ w' = w := by
  have hl := h.1
  obtain ⟨L, hL⟩ : ∃ L, L = xs.length := ⟨_, rfl⟩
  rw [← hL] at hl ⊢
  have HL := hide hL
  have HH := hide h
  have hl' : (L : Int) ≤ 1048576 := by omega
  clear h hL
  go_enter Tryd.func80, Tryd.ntmps80
  go_wp2
  go_loop [8] (fun i => ∃ k : Nat, k ≤ L ∧ i = .int .i64 k ∧ ∀ i, (hi : i < xs.length) → i < k → eqS xs[i] s = false) (fun i => L - (intOf i).toNat)
  case atStart => exact ⟨0, Nat.zero_le _, rfl, fun i _ h => by omega⟩
  case round =>
    obtain ⟨k, hk, rfl, hno⟩ := hrel
    have HN := hide hno
    clear hno
    by_cases hlt : k < L
    · have hk' : k < xs.length := by rw [← unhide HL]; exact hlt
      rcases (unhide HH).2 with h0 | ⟨cb, co, rfl, hc⟩
      · omega
      have c := hc k hk'
      have HP := hide (plc_at s xs k hk')
      have HQ := hide (show eqS xs[k] s = false → ∀ i, (hi : i < xs.length) → i < k + 1 → eqS xs[i] s = false from fun e i hi hik => by
        by_cases q : i = k
        · subst q; exact e
        · exact unhide HN i hi (by omega))
      clear hc
      generalize xs[k] = x at c HP HQ
      by_cases hx : s.toList = x.toList
      · have HX := hide (show plc s xs = k from unhide HP (decide_eq_true hx.symm) (unhide HN))
        go_wp2
        go_ret
        exact ⟨by rw [unhide HX]; rfl, rfl⟩
      · have HX := hide (unhide HQ (decide_eq_false (fun e => hx e.symm)))
        have hx2 : (s.toList == x.toList) = false := by simpa using hx
        clear hx
        go_wp2
        go_round
        case rel => exact ⟨k + 1, by omega, by go_num, unhide HX⟩
        case measure => simp [intOf]; omega
    · have HX := hide (show plc s xs = -1 from plc_none s xs (fun i hi => unhide HN i hi (by have := unhide HL; omega)))
      go_wp2
      go_ret
      exact ⟨by rw [unhide HX]; rfl, rfl⟩
theorem plc_ge (s : ByteArray) (xs : List ByteArray) : (decide (0 ≤ plc s xs)) = xs.any (fun x => eqS x s) := by
  unfold plc
  by_cases h : xs.findIdx (fun x => eqS x s) < xs.length
  · rw [if_pos h]
    rw [show decide ((0 : Int) ≤ (xs.findIdx (fun x => eqS x s) : Int)) = true from decide_eq_true (by omega)]
    symm
    rw [List.any_eq_true]
    exact ⟨_, List.getElem_mem h, List.findIdx_getElem (w := h)⟩
  · rw [if_neg h]
    have e : xs.findIdx (fun x => eqS x s) = xs.length := by have := List.findIdx_le_length (p := fun x => eqS x s) (xs := xs); omega
    have a := List.findIdx_eq_length.1 e
    symm
    rw [show decide ((0 : Int) ≤ -1) = false from rfl, List.any_eq_false]
    intro x hx
    rw [a x hx]; simp
theorem Contains_c (a : Option Addr) (cap : Nat) (xs : List ByteArray) (s : ByteArray) (w : World) (h : Strs w a xs) : Calls Tryd.prog 60 #[.slice a xs.length cap, .string s] w fun e w' => e = .returned (.bool (xs.any fun x => eqS x s)) ∧ w' = w := by
  have HH := hide h
  have HG := hide (plc_ge s xs)
  clear h
  go_enter Tryd.func60, Tryd.ntmps60
  go_wp2_with fail
  refine (Index_c _ _ xs _ _ (unhide HH)).mono ?_
  rintro e w1 ⟨rfl, rfl⟩
  go_wp2
  go_ret
  exact ⟨by rw [← unhide HG]; rfl, rfl⟩
end Go.Proofs.YthldhjifnpfmiaaDoor
