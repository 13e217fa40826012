/- Numbers read: small ones. -/
import Derived.Test.YtppchebikafmeaaDoorRdN
namespace Go.Proofs.YtppchebikafmeaaDoor
open Go.RowKit
set_option linter.unusedSimpArgs false
set_option linter.unusedVariables false

/-- At the text of a small number. -/
def DecF (s : ByteArray) (m : Nat) : Prop := (m < 10 ∧ ∃ q : s.size = 1, ((s[0]'(by omega)).toNat : Int) = 48 + m) ∨ (10 ≤ m ∧ ∃ q : s.size = 2, ((s[0]'(by omega)).toNat : Int) = 48 + (m : Int) / 10 ∧ ((s[1]'(by omega)).toNat : Int) = 48 + (m : Int) % 10)
theorem decF_one (m : Nat) (h : m < 10) : DecF ⟨#[UInt8.ofNat (48 + m)]⟩ m := by
  left
  refine ⟨h, rfl, ?_⟩
  show ((UInt8.ofNat (48 + m)).toNat : Int) = _
  rw [UInt8.toNat_ofNat']
  omega
theorem decF_two (m : Nat) (h : ¬ m < 10) (h2 : m < 100) : DecF ⟨#[UInt8.ofNat (48 + m / 10), UInt8.ofNat (48 + m % 10)]⟩ m := by
  right
  refine ⟨by omega, rfl, ?_, ?_⟩
  · show ((UInt8.ofNat (48 + m / 10)).toNat : Int) = _
    rw [UInt8.toNat_ofNat']
    omega
  · show ((UInt8.ofNat (48 + m % 10)).toNat : Int) = _
    rw [UInt8.toNat_ofNat']
    omega
theorem decB_form (m : Nat) (h : m < 100) : DecF (decB m) m := by
  by_cases h1 : m < 10
  · have e : decB m = ⟨#[UInt8.ofNat (48 + m)]⟩ := by unfold decB; rw [Lib.decDigits_one h1]
    rw [e]
    exact decF_one m h1
  · have e : decB m = ⟨#[UInt8.ofNat (48 + m / 10), UInt8.ofNat (48 + m % 10)]⟩ := by unfold decB; rw [Lib.decDigits_two h1 h]
    rw [e]
    exact decF_two m h1 h
set_option maxRecDepth 20000 in
set_option maxHeartbeats 8000000 in
theorem l1NumD_c (m : Nat) (hm : m < 100) (w : World) : Calls Tryd.prog 31 #[.string (decB m)] w fun e w' => e = .returned (.tuple #[.int .i64 (m : Int), .bool true]) ∧ Below w.heap.size w w' := by
  have hf := decB_form m hm
  generalize decB m = s at hf ⊢
  rcases hf with ⟨h10, h1, ha⟩ | ⟨h10, h1, ha, hb⟩
  · have h1' : (s.size : Int) = 1 := by omega
    have hm' : (m : Int) < 10 := by omega
    have h0 : 0 < s.size := by omega
    have ha2 : (s[0].toNat : Int) = 48 + (m : Int) := ha
    clear ha h1 hm h10
    by_cases hz : m = 0
    case neg =>
      have hz2 : ((48 + (m : Int)) == 48) = false := by simp; omega
      go_enter Tryd.func31, Tryd.ntmps31
      go_wp2
      go_loopw [6, 7] (fun n i wr => ((n = .int .i64 0 ∧ i = .int .i64 0) ∨ (n = .int .i64 (m : Int) ∧ i = .int .i64 1)) ∧ wr = w) (fun _ i _ => 1 - (intOf i).toNat)
      case atStart => exact ⟨.inl ⟨rfl, rfl⟩, rfl⟩
      case round =>
        rcases hrel with ⟨⟨rfl, rfl⟩ | ⟨rfl, rfl⟩, rfl⟩
        · go_wp2
          go_roundw
          case rel => exact ⟨.inr ⟨by first | rfl | (congr 1; go_num; done) | (congr 1; omega), by first | rfl | go_num⟩, trivial⟩
          case measure => simp [intOf]
        · go_wp2
          exact bodyPost_ret (v := .tuple #[.int .i64 (m : Int), .bool true]) (by simp [results, Tryd.results31, go_sem]) rfl ⟨rfl, Below.refl _ _⟩
    subst hz
    have ha3 : (s[0].toNat : Int) = 48 := by omega
    clear ha2 hm'
    go_enter Tryd.func31, Tryd.ntmps31
    go_wp2
    go_loopw [6, 7] (fun n i wr => ((n = .int .i64 0 ∧ i = .int .i64 0) ∨ (n = .int .i64 0 ∧ i = .int .i64 1)) ∧ wr = w) (fun _ i _ => 1 - (intOf i).toNat)
    case atStart => exact ⟨.inl ⟨rfl, rfl⟩, rfl⟩
    case round =>
      rcases hrel with ⟨⟨rfl, rfl⟩ | ⟨rfl, rfl⟩, rfl⟩
      · go_wp2
        go_roundw
        case rel => exact ⟨.inr ⟨by first | rfl | (congr 1; go_num; done) | (congr 1; omega), by first | rfl | go_num⟩, trivial⟩
        case measure => simp [intOf]
      · go_wp2
        exact bodyPost_ret (v := .tuple #[.int .i64 0, .bool true]) (by simp [results, Tryd.results31, go_sem]) rfl ⟨rfl, Below.refl _ _⟩
  · have h1' : (s.size : Int) = 2 := by omega
    have hm' : (m : Int) < 100 := by omega
    have hm2 : (10 : Int) ≤ (m : Int) := by omega
    have h0 : 0 < s.size := by omega
    have h2 : 1 < s.size := by omega
    have ha2 : (s[0].toNat : Int) = 48 + (m : Int) / 10 := ha
    have hb2 : (s[1].toNat : Int) = 48 + (m : Int) % 10 := hb
    have e1 : (m : Int) / 10 < 10 := by omega
    have e2 : 1 ≤ (m : Int) / 10 := by omega
    have e3 : 0 ≤ (m : Int) % 10 := by omega
    have e4 : (m : Int) % 10 < 10 := by omega
    clear ha hb h1 hm h10
    go_enter Tryd.func31, Tryd.ntmps31
    go_wp2
    go_loopw [6, 7] (fun n i wr => ((n = .int .i64 0 ∧ i = .int .i64 0) ∨ (n = .int .i64 ((m : Int) / 10) ∧ i = .int .i64 1) ∨ (n = .int .i64 (m : Int) ∧ i = .int .i64 2)) ∧ wr = w) (fun _ i _ => 2 - (intOf i).toNat)
    case atStart => exact ⟨.inl ⟨rfl, rfl⟩, rfl⟩
    case round =>
      rcases hrel with ⟨⟨rfl, rfl⟩ | ⟨rfl, rfl⟩ | ⟨rfl, rfl⟩, rfl⟩
      · go_wp2
        go_roundw
        case rel => exact ⟨.inr (.inl ⟨by first | rfl | (congr 1; go_num; done) | (congr 1; omega), by first | rfl | go_num⟩), trivial⟩
        case measure => simp [intOf]
      · go_wp2
        go_roundw
        case rel => exact ⟨.inr (.inr ⟨by first | rfl | (congr 1; go_num; done) | (congr 1; omega), by first | rfl | go_num⟩), trivial⟩
        case measure => simp [intOf]
      · go_wp2
        exact bodyPost_ret (v := .tuple #[.int .i64 (m : Int), .bool true]) (by simp [results, Tryd.results31, go_sem]) rfl ⟨rfl, Below.refl _ _⟩
end Go.Proofs.YtppchebikafmeaaDoor
