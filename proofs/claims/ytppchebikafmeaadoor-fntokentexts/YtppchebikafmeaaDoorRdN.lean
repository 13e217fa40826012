/- Numbers read: the specification's. -/
import Derived.Test.YtppchebikafmeaaDoorRdC
namespace Go.Proofs.YtppchebikafmeaaDoor
open Go.RowKit
set_option linter.unusedSimpArgs false
set_option linter.unusedVariables false

/-- A number and whether it is one. -/
def NumR (e : Ending) : Prop := ∃ (n : Int) (b : Bool), e = .returned (.tuple #[.int .i64 n, .bool b])
/-- A - ahead of what is read as a number behind it. -/
def dashB (s : ByteArray) : Prop := ∃ h : 1 < s.size, (s[0].toNat : Int) = 45 ∧ ¬ (s[1].toNat : Int) = 48 ∧ ¬ (s[1].toNat : Int) = 45
set_option maxRecDepth 20000 in
set_option maxHeartbeats 8000000 in
theorem l1NumB_c (s : ByteArray) (hs : s.size ≤ 1048576) (hd : ¬ dashB s) (w : World) : Calls Tryd.prog 31 #[.string s] w fun e w' => NumR e ∧ Below w.heap.size w w' := by
  have hs' : (s.size : Int) ≤ 1048576 := by omega
  have HD := hide hd
  clear hd
  by_cases h1 : 1 < s.size
  · have h1' : (1 : Int) < (s.size : Int) := by omega
    have h0 : 0 < s.size := by omega
    by_cases ha : (s[0].toNat : Int) = 45
    · by_cases hb : (s[1].toNat : Int) = 48
      · by_cases hm : (16 : Int) < (s.size : Int)
        · go_enter Tryd.func31, Tryd.ntmps31
          go_wp2
          exact bodyPost_ret (v := .tuple #[.int .i64 0, .bool false]) (by simp [results, Tryd.results31, go_sem]) rfl ⟨⟨0, false, rfl⟩, Below.refl _ _⟩
        go_enter Tryd.func31, Tryd.ntmps31
        go_wp2
        go_loop [6, 7] (fun n i => ∃ (k : Nat) (v : Int), k ≤ s.size ∧ n = .int .i64 v ∧ i = .int .i64 k) (fun _ i => s.size - (intOf i).toNat)
        case atStart => exact ⟨0, 0, Nat.zero_le _, rfl, rfl⟩
        case round =>
          obtain ⟨k, v, hk, rfl, rfl⟩ := hrel
          by_cases hlt : k < s.size
          · by_cases ha : (s[k].toNat : Int) < 48
            · go_wp2
              exact bodyPost_ret (v := .tuple #[.int .i64 0, .bool false]) (by simp [results, Tryd.results31, go_sem]) rfl ⟨⟨0, false, rfl⟩, Below.refl _ _⟩
            · by_cases hb : (57 : Int) < (s[k].toNat : Int)
              · go_wp2
                exact bodyPost_ret (v := .tuple #[.int .i64 0, .bool false]) (by simp [results, Tryd.results31, go_sem]) rfl ⟨⟨0, false, rfl⟩, Below.refl _ _⟩
              · go_wp2
                go_round
                case rel => exact ⟨k + 1, _, by omega, rfl, by go_num⟩
                case measure => simp [intOf]; omega
          · go_wp2
            exact bodyPost_ret (v := .tuple #[.int .i64 v, .bool true]) (by simp [results, Tryd.results31, go_sem]) rfl ⟨⟨v, true, rfl⟩, Below.refl _ _⟩
      · by_cases hc : (s[1].toNat : Int) = 45
        · by_cases hm : (16 : Int) < (s.size : Int)
          · go_enter Tryd.func31, Tryd.ntmps31
            go_wp2
            exact bodyPost_ret (v := .tuple #[.int .i64 0, .bool false]) (by simp [results, Tryd.results31, go_sem]) rfl ⟨⟨0, false, rfl⟩, Below.refl _ _⟩
          go_enter Tryd.func31, Tryd.ntmps31
          go_wp2
          go_loop [6, 7] (fun n i => ∃ (k : Nat) (v : Int), k ≤ s.size ∧ n = .int .i64 v ∧ i = .int .i64 k) (fun _ i => s.size - (intOf i).toNat)
          case atStart => exact ⟨0, 0, Nat.zero_le _, rfl, rfl⟩
          case round =>
            obtain ⟨k, v, hk, rfl, rfl⟩ := hrel
            by_cases hlt : k < s.size
            · by_cases ha : (s[k].toNat : Int) < 48
              · go_wp2
                exact bodyPost_ret (v := .tuple #[.int .i64 0, .bool false]) (by simp [results, Tryd.results31, go_sem]) rfl ⟨⟨0, false, rfl⟩, Below.refl _ _⟩
              · by_cases hb : (57 : Int) < (s[k].toNat : Int)
                · go_wp2
                  exact bodyPost_ret (v := .tuple #[.int .i64 0, .bool false]) (by simp [results, Tryd.results31, go_sem]) rfl ⟨⟨0, false, rfl⟩, Below.refl _ _⟩
                · go_wp2
                  go_round
                  case rel => exact ⟨k + 1, _, by omega, rfl, by go_num⟩
                  case measure => simp [intOf]; omega
            · go_wp2
              exact bodyPost_ret (v := .tuple #[.int .i64 v, .bool true]) (by simp [results, Tryd.results31, go_sem]) rfl ⟨⟨v, true, rfl⟩, Below.refl _ _⟩
        · exact absurd ⟨h1, ha, hb, hc⟩ (unhide HD)
    · by_cases hm : (16 : Int) < (s.size : Int)
      · go_enter Tryd.func31, Tryd.ntmps31
        go_wp2
        exact bodyPost_ret (v := .tuple #[.int .i64 0, .bool false]) (by simp [results, Tryd.results31, go_sem]) rfl ⟨⟨0, false, rfl⟩, Below.refl _ _⟩
      by_cases hz : (s[0].toNat : Int) = 48
      · go_enter Tryd.func31, Tryd.ntmps31
        go_wp2
        exact bodyPost_ret (v := .tuple #[.int .i64 0, .bool false]) (by simp [results, Tryd.results31, go_sem]) rfl ⟨⟨0, false, rfl⟩, Below.refl _ _⟩
      go_enter Tryd.func31, Tryd.ntmps31
      go_wp2
      go_loop [6, 7] (fun n i => ∃ (k : Nat) (v : Int), k ≤ s.size ∧ n = .int .i64 v ∧ i = .int .i64 k) (fun _ i => s.size - (intOf i).toNat)
      case atStart => exact ⟨0, 0, Nat.zero_le _, rfl, rfl⟩
      case round =>
        obtain ⟨k, v, hk, rfl, rfl⟩ := hrel
        by_cases hlt : k < s.size
        · by_cases ha : (s[k].toNat : Int) < 48
          · go_wp2
            exact bodyPost_ret (v := .tuple #[.int .i64 0, .bool false]) (by simp [results, Tryd.results31, go_sem]) rfl ⟨⟨0, false, rfl⟩, Below.refl _ _⟩
          · by_cases hb : (57 : Int) < (s[k].toNat : Int)
            · go_wp2
              exact bodyPost_ret (v := .tuple #[.int .i64 0, .bool false]) (by simp [results, Tryd.results31, go_sem]) rfl ⟨⟨0, false, rfl⟩, Below.refl _ _⟩
            · go_wp2
              go_round
              case rel => exact ⟨k + 1, _, by omega, rfl, by go_num⟩
              case measure => simp [intOf]; omega
        · go_wp2
          exact bodyPost_ret (v := .tuple #[.int .i64 v, .bool true]) (by simp [results, Tryd.results31, go_sem]) rfl ⟨⟨v, true, rfl⟩, Below.refl _ _⟩
  · have h1' : ¬ (1 : Int) < (s.size : Int) := by omega
    by_cases h0 : 0 < s.size
    · have h0' : ¬ (s.size : Int) < 1 := by omega
      by_cases hm : (16 : Int) < (s.size : Int)
      · go_enter Tryd.func31, Tryd.ntmps31
        go_wp2
        exact bodyPost_ret (v := .tuple #[.int .i64 0, .bool false]) (by simp [results, Tryd.results31, go_sem]) rfl ⟨⟨0, false, rfl⟩, Below.refl _ _⟩
      by_cases hz : (s[0].toNat : Int) = 48
      · go_enter Tryd.func31, Tryd.ntmps31
        go_wp2
        go_loop [6, 7] (fun n i => ∃ (k : Nat) (v : Int), k ≤ s.size ∧ n = .int .i64 v ∧ i = .int .i64 k) (fun _ i => s.size - (intOf i).toNat)
        case atStart => exact ⟨0, 0, Nat.zero_le _, rfl, rfl⟩
        case round =>
          obtain ⟨k, v, hk, rfl, rfl⟩ := hrel
          by_cases hlt : k < s.size
          · by_cases ha : (s[k].toNat : Int) < 48
            · go_wp2
              exact bodyPost_ret (v := .tuple #[.int .i64 0, .bool false]) (by simp [results, Tryd.results31, go_sem]) rfl ⟨⟨0, false, rfl⟩, Below.refl _ _⟩
            · by_cases hb : (57 : Int) < (s[k].toNat : Int)
              · go_wp2
                exact bodyPost_ret (v := .tuple #[.int .i64 0, .bool false]) (by simp [results, Tryd.results31, go_sem]) rfl ⟨⟨0, false, rfl⟩, Below.refl _ _⟩
              · go_wp2
                go_round
                case rel => exact ⟨k + 1, _, by omega, rfl, by go_num⟩
                case measure => simp [intOf]; omega
          · go_wp2
            exact bodyPost_ret (v := .tuple #[.int .i64 v, .bool true]) (by simp [results, Tryd.results31, go_sem]) rfl ⟨⟨v, true, rfl⟩, Below.refl _ _⟩
      go_enter Tryd.func31, Tryd.ntmps31
      go_wp2
      go_loop [6, 7] (fun n i => ∃ (k : Nat) (v : Int), k ≤ s.size ∧ n = .int .i64 v ∧ i = .int .i64 k) (fun _ i => s.size - (intOf i).toNat)
      case atStart => exact ⟨0, 0, Nat.zero_le _, rfl, rfl⟩
      case round =>
        obtain ⟨k, v, hk, rfl, rfl⟩ := hrel
        by_cases hlt : k < s.size
        · by_cases ha : (s[k].toNat : Int) < 48
          · go_wp2
            exact bodyPost_ret (v := .tuple #[.int .i64 0, .bool false]) (by simp [results, Tryd.results31, go_sem]) rfl ⟨⟨0, false, rfl⟩, Below.refl _ _⟩
          · by_cases hb : (57 : Int) < (s[k].toNat : Int)
            · go_wp2
              exact bodyPost_ret (v := .tuple #[.int .i64 0, .bool false]) (by simp [results, Tryd.results31, go_sem]) rfl ⟨⟨0, false, rfl⟩, Below.refl _ _⟩
            · go_wp2
              go_round
              case rel => exact ⟨k + 1, _, by omega, rfl, by go_num⟩
              case measure => simp [intOf]; omega
        · go_wp2
          exact bodyPost_ret (v := .tuple #[.int .i64 v, .bool true]) (by simp [results, Tryd.results31, go_sem]) rfl ⟨⟨v, true, rfl⟩, Below.refl _ _⟩
    · have h0' : (s.size : Int) < 1 := by omega
      go_enter Tryd.func31, Tryd.ntmps31
      go_wp2
      exact bodyPost_ret (v := .tuple #[.int .i64 0, .bool false]) (by simp [results, Tryd.results31, go_sem]) rfl ⟨⟨0, false, rfl⟩, Below.refl _ _⟩
set_option maxRecDepth 20000 in
set_option maxHeartbeats 8000000 in
theorem l1Num_c (s : ByteArray) (hs : s.size ≤ 1048576) (w : World) : Calls Tryd.prog 31 #[.string s] w fun e w' => NumR e ∧ Below w.heap.size w w' := by
  by_cases hd : dashB s
  · obtain ⟨h1, ha, hb, hc⟩ := hd
    have hs' : (s.size : Int) ≤ 1048576 := by omega
    have h1' : (1 : Int) < (s.size : Int) := by omega
    have h2' : (1 : Int) ≤ (s.size : Int) := by omega
    have h0 : 0 < s.size := by omega
    have ht : (s.extract 1 s.size).size ≤ 1048576 := by rw [ByteArray.size_extract]; omega
    have hnd : ¬ dashB (s.extract 1 s.size) := by
      rintro ⟨q, qa, _⟩
      rw [ByteArray.getElem_extract] at qa
      exact hc qa
    have b1 : ((s[1].toNat : Int) != 48) = true := by simpa using hb
    have b2 : ((s[1].toNat : Int) != 45) = true := by simpa using hc
    have HT := hide (And.intro ht hnd)
    clear ht hnd
    go_enter Tryd.func31, Tryd.ntmps31
    go_wp2_with fail
    refine (l1NumB_c _ (unhide HT).1 (unhide HT).2 _).mono ?_
    rintro e u ⟨⟨n, b, rfl⟩, kb⟩
    have HK := hide kb
    clear kb
    go_wp2
    exact bodyPost_ret (v := .tuple #[.int .i64 (wrap64 (-n)), .bool b]) (by simp [results, Tryd.results31, go_sem]) rfl ⟨⟨_, b, rfl⟩, unhide HK⟩
  · exact l1NumB_c s hs hd w
end Go.Proofs.YtppchebikafmeaaDoor
