/- Names, as the program asks for them: the words that are none lie in a variable of the package. -/
import Derived.Test.YthldhjifnpfmiaaGreatDoorNameE
namespace Go.Proofs.YthldhjifnpfmiaaGreatDoor
open Go.RowKit
set_option linter.unusedSimpArgs false

/-- The words lie in the package's variable. -/
def KW (w : World) : Prop := ∀ k, (h : k < keysL.length) → w.cell? ⟨0, k, none⟩ = some (.string keysL[k])
theorem KW.call {w w1 : World} (h : KW w) (hb : Below w.heap.size w w1) : KW w1 := fun k hk => (hb.cell (World.block_lt_of_cell? w _ (h k hk))).trans (h k hk)
def kwV : Value := .agg #[.string ⟨#[118, 97, 114]⟩, .string ⟨#[102, 108, 97, 103]⟩, .string ⟨#[97, 114, 114, 97, 121]⟩, .string ⟨#[105, 102]⟩, .string ⟨#[102, 111, 114, 107]⟩, .string ⟨#[101, 108, 115, 101]⟩, .string ⟨#[101, 110, 100]⟩, .string ⟨#[119, 104, 105, 108, 101]⟩, .string ⟨#[117, 110, 114, 111, 108, 108]⟩, .string ⟨#[97, 115, 115, 101, 114, 116]⟩, .string ⟨#[97, 115, 115, 117, 109, 101]⟩, .string ⟨#[105, 110, 112, 117, 116]⟩, .string ⟨#[115, 112, 108, 105, 116]⟩, .string ⟨#[109, 101, 114, 103, 101]⟩, .string ⟨#[116, 114, 117, 101]⟩, .string ⟨#[102, 97, 108, 115, 101]⟩]
theorem kwSize : (Tryz.prog.info? 9).map (fun i => (i.zero, i.size, i.bytes)) = some (some (.string ⟨#[]⟩), 1, 16) := by kernel_rfl
theorem kwIdx (A : Array Value) (k : Nat) (x : ByteArray) (hk : k < 16) (h : A[k]? = some (.string x)) (w : World) : (Instr.index 146 (.agg A) (.int .i64 (k : Int))).run Tryz.prog w = .ok (.string x) w := by
  have h0 : (0 : Int) ≤ k ∧ (k : Int) < 16 := by omega
  obtain ⟨inf, hi, hz0, hz1, hz2⟩ := info_parts kwSize
  simp [Instr.index, run_underlying Tryz.underlying146, asIntOf, h0, go_sem, sizeOf, typeInfo, hi, hz1]
  rw [if_pos hk, h]
  rfl
set_option maxHeartbeats 1000000 in
theorem nameOk_c (s : ByteArray) (hs : s.size ≤ 1048576) (w : World) (hk : KW w) : Calls Tryz.prog 77 #[.string s] w fun e w' => e = .returned (.bool (nameB s)) ∧ w' = w := by
  have hs' : (s.size : Int) ≤ 1048576 := by omega
  have HK := hide hk
  have c0 := hk 0 (by decide)
  have c1 := hk 1 (by decide)
  have c2 := hk 2 (by decide)
  have c3 := hk 3 (by decide)
  have c4 := hk 4 (by decide)
  have c5 := hk 5 (by decide)
  have c6 := hk 6 (by decide)
  have c7 := hk 7 (by decide)
  have c8 := hk 8 (by decide)
  have c9 := hk 9 (by decide)
  have c10 := hk 10 (by decide)
  have c11 := hk 11 (by decide)
  have c12 := hk 12 (by decide)
  have c13 := hk 13 (by decide)
  have c14 := hk 14 (by decide)
  have c15 := hk 15 (by decide)
  clear hk
  by_cases h0 : s.size = 0
  · have HN := hide (show nameB s = false by unfold nameB inB; rw [h0]; simp)
    have HE : Hid (s = ⟨#[]⟩) := hide (show s = ByteArray.empty by simpa using h0)
    rw [unhide HE] at HN ⊢
    go_enter Tryz.func77, Tryz.ntmps77
    go_wp2
    go_ret
    exact ⟨by rw [unhide HN]; rfl, rfl⟩
  have hne : (s.toList == ([] : List UInt8)) = false := by
    cases e : (s.toList == ([] : List UInt8))
    · rfl
    · exfalso
      have e2 : s.toList = [] := by simpa using e
      apply h0
      rw [ByteArray.toList_eq] at e2
      exact congrArg List.length e2
  by_cases h8 : 8 < (s.size : Int)
  · have HN := hide (show nameB s = false by unfold nameB inB; rw [show decide ((1 : Int) ≤ s.size ∧ (s.size : Int) ≤ 8) = false from decide_eq_false (by omega)]; simp)
    go_enter Tryz.func77, Tryz.ntmps77
    go_wp2
    go_ret
    exact ⟨by rw [unhide HN]; rfl, rfl⟩
  have Hne := hide hne
  go_enter Tryz.func77, Tryz.ntmps77
  go_wp2_with fail
  refine (runOf_c _ hs _).mono ?_
  rintro e w' ⟨n, rfl, hr, rfl⟩
  have HR := hide hr
  clear hr
  by_cases hn : n < s.size
  · have HN := hide (show nameB s = false by
      rcases (unhide HR).2.2 with h | ⟨h, hb⟩
      · omega
      · unfold nameB; rw [allL_no s n h hb]; rfl)
    go_wp2
    go_ret
    exact ⟨by rw [unhide HN]; rfl, rfl⟩
  have HL := hide (show nameB s = !keyB s by
    unfold nameB
    rw [allL_yes s (fun i h => (unhide HR).2.1 i h (by omega)), show inB s.size 1 8 = true from decide_eq_true (by omega)]
    simp)
  go_wp2
  clear c0 c1 c2 c3 c4 c5 c6 c7 c8 c9 c10 c11 c12 c13 c14 c15
  obtain ⟨A, hA⟩ : ∃ A : Array Value, A = #[.string keysL[0], .string keysL[1], .string keysL[2], .string keysL[3], .string keysL[4], .string keysL[5], .string keysL[6], .string keysL[7], .string keysL[8], .string keysL[9], .string keysL[10], .string keysL[11], .string keysL[12], .string keysL[13], .string keysL[14], .string keysL[15]] := ⟨_, rfl⟩
  rw [← hA]
  have HA : Hid (∀ k, (h : k < keysL.length) → A[k]? = some (.string keysL[k])) := hide (fun k h => by
    rw [show A = (keysL.map Value.string).toArray from hA]
    simp [h])
  have hz : A.size = 16 := by rw [hA]; rfl
  clear hA
  go_loop [20] (fun i => ∃ k : Nat, k ≤ 16 ∧ i = .int .i64 k ∧ (keysL.take k).any (fun x => eqS x s) = false) (fun i => 16 - (intOf i).toNat)
  case atStart => exact ⟨0, by decide, rfl, rfl⟩
  case round =>
    obtain ⟨k, hk, rfl, hno⟩ := hrel
    have HN := hide hno
    clear hno
    by_cases hlt : k < 16
    · have hk' : k < keysL.length := by rw [keysL_len]; exact hlt
      have c := (unhide HA) k hk'
      have HS := hide (key_snoc s k hk')
      have HT := hide (show eqS keysL[k] s = true → keyB s = true from fun e => by unfold keyB; rw [List.any_eq_true]; exact ⟨_, List.getElem_mem hk', e⟩)
      generalize keysL[k] = x at c HS HT
      have hlt' : (k : Int) < 16 := by omega
      have hI := kwIdx A k x hlt c
      clear c
      by_cases hx : s.toList = x.toList
      · have HX := hide (show keyB s = true from unhide HT (decide_eq_true hx.symm))
        go_wp2
        go_ret
        exact ⟨by rw [unhide HL, unhide HX]; rfl, rfl⟩
      · have HX := hide (show eqS x s = false from decide_eq_false (fun e => hx e.symm))
        have hx2 : (s.toList == x.toList) = false := by simpa using hx
        clear hx
        go_wp2
        go_round
        case rel => exact ⟨k + 1, by omega, by go_num, by rw [unhide HS, unhide HN, unhide HX]; rfl⟩
        case measure => simp [intOf]; omega
    · obtain rfl : k = 16 := by omega
      have HF := hide (show keyB s = false from unhide HN)
      go_wp2
      go_ret
      exact ⟨by rw [unhide HL, unhide HF]; rfl, rfl⟩
end Go.Proofs.YthldhjifnpfmiaaGreatDoor
