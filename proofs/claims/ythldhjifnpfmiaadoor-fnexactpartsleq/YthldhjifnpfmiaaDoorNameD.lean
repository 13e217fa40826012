/- Names: the words that are none. -/
import Derived.Test.YthldhjifnpfmiaaDoorNameC
import Derived.Below
namespace Go.Proofs.YthldhjifnpfmiaaDoor
open Go.RowKit
set_option linter.unusedSimpArgs false

/-- The words that are no names. -/
def keysL : List ByteArray := [⟨#[118, 97, 114]⟩, ⟨#[102, 108, 97, 103]⟩, ⟨#[97, 114, 114, 97, 121]⟩, ⟨#[105, 102]⟩, ⟨#[102, 111, 114, 107]⟩, ⟨#[101, 108, 115, 101]⟩, ⟨#[101, 110, 100]⟩, ⟨#[119, 104, 105, 108, 101]⟩, ⟨#[117, 110, 114, 111, 108, 108]⟩, ⟨#[97, 115, 115, 101, 114, 116]⟩, ⟨#[97, 115, 115, 117, 109, 101]⟩, ⟨#[105, 110, 112, 117, 116]⟩, ⟨#[115, 112, 108, 105, 116]⟩, ⟨#[109, 101, 114, 103, 101]⟩, ⟨#[116, 114, 117, 101]⟩, ⟨#[102, 97, 108, 115, 101]⟩]
def eqS (x s : ByteArray) : Bool := decide (x.toList = s.toList)
def keyB (s : ByteArray) : Bool := keysL.any fun k => eqS k s
theorem keysL_len : keysL.length = 16 := rfl
theorem key_snoc (s : ByteArray) (k : Nat) (h : k < keysL.length) : (keysL.take (k + 1)).any (fun x => eqS x s) = ((keysL.take k).any (fun x => eqS x s) || eqS keysL[k] s) := by
  rw [List.take_succ_eq_append_getElem h, List.any_append]; simp only [List.any_cons, List.any_nil, Bool.or_false]
set_option maxHeartbeats 1000000 in
theorem l3Key_c (s : ByteArray) (w : World) : Calls Tryd.prog 72 #[.string s] w fun e w' => e = .returned (.bool (keyB s)) ∧ Below w.heap.size w w' := by
  have hc : ∀ k, (h : k < keysL.length) → (w.alloc (Obj.cells #[.string ⟨#[118, 97, 114]⟩, .string ⟨#[102, 108, 97, 103]⟩, .string ⟨#[97, 114, 114, 97, 121]⟩, .string ⟨#[105, 102]⟩, .string ⟨#[102, 111, 114, 107]⟩, .string ⟨#[101, 108, 115, 101]⟩, .string ⟨#[101, 110, 100]⟩, .string ⟨#[119, 104, 105, 108, 101]⟩, .string ⟨#[117, 110, 114, 111, 108, 108]⟩, .string ⟨#[97, 115, 115, 101, 114, 116]⟩, .string ⟨#[97, 115, 115, 117, 109, 101]⟩, .string ⟨#[105, 110, 112, 117, 116]⟩, .string ⟨#[115, 112, 108, 105, 116]⟩, .string ⟨#[109, 101, 114, 103, 101]⟩, .string ⟨#[116, 114, 117, 101]⟩, .string ⟨#[102, 97, 108, 115, 101]⟩] 9)).cell? ⟨w.heap.size, k, none⟩ = some (.string keysL[k]) := by
    intro k h
    have e : (w.alloc (Obj.cells #[.string ⟨#[118, 97, 114]⟩, .string ⟨#[102, 108, 97, 103]⟩, .string ⟨#[97, 114, 114, 97, 121]⟩, .string ⟨#[105, 102]⟩, .string ⟨#[102, 111, 114, 107]⟩, .string ⟨#[101, 108, 115, 101]⟩, .string ⟨#[101, 110, 100]⟩, .string ⟨#[119, 104, 105, 108, 101]⟩, .string ⟨#[117, 110, 114, 111, 108, 108]⟩, .string ⟨#[97, 115, 115, 101, 114, 116]⟩, .string ⟨#[97, 115, 115, 117, 109, 101]⟩, .string ⟨#[105, 110, 112, 117, 116]⟩, .string ⟨#[115, 112, 108, 105, 116]⟩, .string ⟨#[109, 101, 114, 103, 101]⟩, .string ⟨#[116, 114, 117, 101]⟩, .string ⟨#[102, 97, 108, 115, 101]⟩] 9)).cell? ⟨w.heap.size, k, none⟩ = ((keysL.map Value.string).toArray)[k]? := by
      unfold World.cell?
      rw [heap_alloc_new]
      rfl
    rw [e]
    simp [h]
  have HC := hide hc
  have K := hide ((Below.refl _ w).alloc (Nat.le_refl _) (Obj.cells #[.string ⟨#[118, 97, 114]⟩, .string ⟨#[102, 108, 97, 103]⟩, .string ⟨#[97, 114, 114, 97, 121]⟩, .string ⟨#[105, 102]⟩, .string ⟨#[102, 111, 114, 107]⟩, .string ⟨#[101, 108, 115, 101]⟩, .string ⟨#[101, 110, 100]⟩, .string ⟨#[119, 104, 105, 108, 101]⟩, .string ⟨#[117, 110, 114, 111, 108, 108]⟩, .string ⟨#[97, 115, 115, 101, 114, 116]⟩, .string ⟨#[97, 115, 115, 117, 109, 101]⟩, .string ⟨#[105, 110, 112, 117, 116]⟩, .string ⟨#[115, 112, 108, 105, 116]⟩, .string ⟨#[109, 101, 114, 103, 101]⟩, .string ⟨#[116, 114, 117, 101]⟩, .string ⟨#[102, 97, 108, 115, 101]⟩] 9))
  clear hc
  go_enter Tryd.func72, Tryd.ntmps72
  go_wp2
  generalize w.alloc (Obj.cells #[.string ⟨#[118, 97, 114]⟩, .string ⟨#[102, 108, 97, 103]⟩, .string ⟨#[97, 114, 114, 97, 121]⟩, .string ⟨#[105, 102]⟩, .string ⟨#[102, 111, 114, 107]⟩, .string ⟨#[101, 108, 115, 101]⟩, .string ⟨#[101, 110, 100]⟩, .string ⟨#[119, 104, 105, 108, 101]⟩, .string ⟨#[117, 110, 114, 111, 108, 108]⟩, .string ⟨#[97, 115, 115, 101, 114, 116]⟩, .string ⟨#[97, 115, 115, 117, 109, 101]⟩, .string ⟨#[105, 110, 112, 117, 116]⟩, .string ⟨#[115, 112, 108, 105, 116]⟩, .string ⟨#[109, 101, 114, 103, 101]⟩, .string ⟨#[116, 114, 117, 101]⟩, .string ⟨#[102, 97, 108, 115, 101]⟩] 9) = W at HC K ⊢
  go_loop [4] (fun i => ∃ k : Nat, k ≤ 16 ∧ i = .int .i64 k ∧ (keysL.take k).any (fun x => eqS x s) = false) (fun i => 16 - (intOf i).toNat)
  case atStart => exact ⟨0, by decide, rfl, rfl⟩
  case round =>
    obtain ⟨k, hk, rfl, hno⟩ := hrel
    have HN := hide hno
    clear hno
    by_cases hlt : k < 16
    · have hk' : k < keysL.length := by rw [keysL_len]; exact hlt
      have c := (unhide HC) k hk'
      have HS := hide (key_snoc s k hk')
      have HT := hide (show eqS keysL[k] s = true → keyB s = true from fun e => by unfold keyB; rw [List.any_eq_true]; exact ⟨_, List.getElem_mem hk', e⟩)
      generalize keysL[k] = x at c HS HT
      have hlt' : (k : Int) < 16 := by omega
      by_cases hx : x.toList = s.toList
      · have HX := hide (show keyB s = true from unhide HT (decide_eq_true hx))
        go_wp2
        go_ret
        exact ⟨by rw [unhide HX]; rfl, unhide K⟩
      · have HX := hide (show eqS x s = false from decide_eq_false hx)
        have hx2 : (x.toList == s.toList) = false := by simpa using hx
        clear hx
        go_wp2
        go_round
        case rel => exact ⟨k + 1, by omega, by go_num, by rw [unhide HS, unhide HN, unhide HX]; rfl⟩
        case measure => simp [intOf]; omega
    · obtain rfl : k = 16 := by omega
      have HF := hide (show keyB s = false from unhide HN)
      go_wp2
      go_ret
      exact ⟨by rw [unhide HF]; rfl, unhide K⟩
end Go.Proofs.YthldhjifnpfmiaaDoor
