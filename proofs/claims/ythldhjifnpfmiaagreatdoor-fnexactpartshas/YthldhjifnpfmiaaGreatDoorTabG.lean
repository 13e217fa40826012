/- The leaf of a store's flags; whether a table has a store. -/
import Derived.Test.YthldhjifnpfmiaaGreatDoorTabF
import Derived.Test.YthldhjifnpfmiaaGreatDoorHasD
namespace Go.Proofs.YthldhjifnpfmiaaGreatDoor
open Go.RowKit
set_option linter.unusedSimpArgs false
set_option linter.unusedVariables false

def oneN (b : Bool) : Int := if b then 1 else 0
theorem bor : bits .or .i64 0 0 = 0 ∧ bits .or .i64 0 1 = 1 ∧ bits .or .i64 0 2 = 2 ∧ bits .or .i64 1 0 = 1 ∧ bits .or .i64 1 2 = 3 ∧ bits .or .i64 0 4 = 4 ∧ bits .or .i64 1 4 = 5 ∧ bits .or .i64 2 0 = 2 ∧ bits .or .i64 2 4 = 6 ∧ bits .or .i64 3 0 = 3 ∧ bits .or .i64 3 4 = 7 := by decide
theorem oneN_f : oneN false = 0 := rfl
theorem oneN_t : oneN true = 1 := rfl
def leafN : List Bool → Int
  | [] => 0
  | b :: l => oneN b + 2 * leafN l
theorem leafN_drop (bs : List Bool) (k : Nat) (h : k < bs.length) : leafN (bs.drop k) = oneN bs[k] + 2 * leafN (bs.drop (k + 1)) := by
  rw [List.drop_eq_getElem_cons h]; rfl
theorem leafN_lt : ∀ bs : List Bool, 0 ≤ leafN bs ∧ leafN bs < 2 ^ bs.length
  | [] => by decide
  | b :: l => by
    have h := leafN_lt l
    show 0 ≤ oneN b + 2 * leafN l ∧ oneN b + 2 * leafN l < 2 ^ (l.length + 1)
    rw [Int.pow_succ]
    unfold oneN
    split <;> omega
theorem truth_c (b : Bool) (w : World) : Calls Tryz.prog 86 #[.bool b] w fun e w' => e = .returned (.int .i64 (oneN b)) ∧ w' = w := by
  cases b
  all_goals
    go_enter Tryz.func86, Tryz.ntmps86
    go_wp2
    go_ret
    exact ⟨rfl, rfl⟩
theorem l5One_c (b : Bool) (w : World) : Calls Tryz.prog 57 #[.bool b] w fun e w' => e = .returned (.int .i64 (oneN b)) ∧ w' = w := by
  cases b
  all_goals
    go_enter Tryz.func57, Tryz.ntmps57
    go_wp2
    go_ret
    exact ⟨rfl, rfl⟩
set_option maxHeartbeats 1000000 in
theorem l8Leaf_c (v1 v3 : Value) (g2 f2 : Nat) (bs : List Bool) (w : World) (hb : Bools w (some ⟨g2, 0, none⟩) bs) (h3 : bs.length ≤ 3) : Calls Tryz.prog 29 #[.agg #[v1, .slice (some ⟨g2, 0, none⟩) bs.length f2, v3]] w fun e w' => e = .returned (.int .i64 (leafN bs)) ∧ Below w.heap.size w w' := by
  obtain ⟨R, hR⟩ : ∃ R, R = leafN bs := ⟨_, rfl⟩
  rw [← hR]
  have HR := hide hR
  obtain ⟨L, hL⟩ : ∃ L, L = bs.length := ⟨_, rfl⟩
  have HL := hide hL
  rw [← hL] at h3 ⊢
  have HH := hide hb
  have HT := hide (C3.new w v1 (.slice (some ⟨g2, 0, none⟩) L f2) v3 46)
  have HK := hide ((Below.refl _ w).alloc (Nat.le_refl _) (Obj.cells #[v1, .slice (some ⟨g2, 0, none⟩) L f2, v3] 46))
  clear hb hL hR
  go_enter Tryz.func29, Tryz.ntmps29
  go_wp2_with fail
  generalize w.alloc (Obj.cells #[v1, .slice (some ⟨g2, 0, none⟩) L f2, v3] 46) = u at HT HK ⊢
  have t1 := (unhide HT).2.1
  go_wp2_with fail
  go_loopw [3, 4] (fun n i wr => ∃ (k : Nat) (acc : Int), k ≤ L ∧ i = .int .i64 k ∧ n = .int .i64 acc ∧ 0 ≤ acc ∧ acc < 2 ^ k ∧ acc + 2 ^ k * leafN (bs.drop k) = R ∧ C3 wr w.heap.size v1 (.slice (some ⟨g2, 0, none⟩) L f2) v3 ∧ Below w.heap.size w wr) (fun _ i _ => L - (intOf i).toNat)
  case atStart => exact ⟨0, 0, Nat.zero_le _, rfl, rfl, by decide, by decide, by rw [List.drop_zero, unhide HR]; omega, unhide HT, unhide HK⟩
  case round =>
    clear t1 HT HK
    obtain ⟨k, acc, hk, rfl, rfl, a0, a1, he, ht, hbl⟩ := hrel
    have HE := hide he
    have HT := hide ht
    have HB := hide hbl
    have t1 := ht.2.1
    clear he ht
    by_cases hlt : k < L
    · have hk' : k < bs.length := by rw [← unhide HL]; exact hlt
      rcases ((unhide HH).call hbl).2 with h0 | ⟨cb, co, e0, hc⟩
      · omega
      cases e0
      have c1 := hc k hk'
      rw [Nat.zero_add] at c1
      have HD := hide (leafN_drop bs k hk')
      clear hc hbl
      generalize bs[k] = b at c1 HD
      rcases (show k = 0 ∨ k = 1 ∨ k = 2 by omega) with rfl | rfl | rfl
      · obtain rfl : acc = 0 := by omega
        cases b
        all_goals
          go_wp2_with fail
          refine (l5One_c _ _).mono ?_
          rintro e w2 ⟨rfl, rfl⟩; (first | rw [oneN_f] | rw [oneN_t])
          go_wp2
          go_roundw
          case rel => exact ⟨1, _, by omega, by go_num, rfl, by decide, by decide, by have := unhide HE; have h2 := unhide HD; rw [h2] at this; simp [oneN, bor] at this ⊢; omega, unhide HT, unhide HB⟩
          case measure => simp [intOf]; omega
      · rcases (show acc = 0 ∨ acc = 1 by omega) with rfl | rfl
        all_goals
          cases b
          all_goals
            go_wp2_with fail
            refine (l5One_c _ _).mono ?_
            rintro e w2 ⟨rfl, rfl⟩; (first | rw [oneN_f] | rw [oneN_t])
            go_wp2
            go_roundw
            case rel => exact ⟨2, _, by omega, by go_num, rfl, by decide, by decide, by have := unhide HE; have h2 := unhide HD; rw [h2] at this; simp [oneN, bor] at this ⊢; omega, unhide HT, unhide HB⟩
            case measure => simp [intOf]; omega
      · rcases (show acc = 0 ∨ acc = 1 ∨ acc = 2 ∨ acc = 3 by omega) with rfl | rfl | rfl | rfl
        all_goals
          cases b
          all_goals
            go_wp2_with fail
            refine (l5One_c _ _).mono ?_
            rintro e w2 ⟨rfl, rfl⟩; (first | rw [oneN_f] | rw [oneN_t])
            go_wp2
            go_roundw
            case rel => exact ⟨3, _, by omega, by go_num, rfl, by decide, by decide, by have := unhide HE; have h2 := unhide HD; rw [h2] at this; simp [oneN, bor] at this ⊢; omega, unhide HT, unhide HB⟩
            case measure => simp [intOf]; omega
    · obtain rfl : k = L := by omega
      have E : Hid (acc = R) := by
        unfold Hid
        have := unhide HE
        rw [List.drop_of_length_le (by rw [unhide HL]; exact Nat.le_refl _)] at this
        simp [leafN] at this
        exact this
      clear hbl
      go_wp2
      go_ret
      exact ⟨by rw [← unhide E]; rfl, unhide HB⟩
set_option maxHeartbeats 1000000 in
theorem leafOf_c (v1 v3 : Value) (g2 f2 : Nat) (bs : List Bool) (w : World) (hb : Bools w (some ⟨g2, 0, none⟩) bs) (h3 : bs.length ≤ 3) : Calls Tryz.prog 67 #[.agg #[v1, .slice (some ⟨g2, 0, none⟩) bs.length f2, v3]] w fun e w' => e = .returned (.int .i64 (leafN bs)) ∧ Below w.heap.size w w' := by
  obtain ⟨R, hR⟩ : ∃ R, R = leafN bs := ⟨_, rfl⟩
  rw [← hR]
  have HR := hide hR
  obtain ⟨L, hL⟩ : ∃ L, L = bs.length := ⟨_, rfl⟩
  have HL := hide hL
  rw [← hL] at h3 ⊢
  have HH := hide hb
  have HT := hide (C3.new w v1 (.slice (some ⟨g2, 0, none⟩) L f2) v3 46)
  have HK := hide ((Below.refl _ w).alloc (Nat.le_refl _) (Obj.cells #[v1, .slice (some ⟨g2, 0, none⟩) L f2, v3] 46))
  clear hb hL hR
  go_enter Tryz.func67, Tryz.ntmps67
  go_wp2_with fail
  generalize w.alloc (Obj.cells #[v1, .slice (some ⟨g2, 0, none⟩) L f2, v3] 46) = u at HT HK ⊢
  have t1 := (unhide HT).2.1
  go_wp2_with fail
  go_loopw [3, 9] (fun n i wr => ∃ (k : Nat) (acc : Int), k ≤ L ∧ i = .int .i64 k ∧ n = .int .i64 acc ∧ 0 ≤ acc ∧ acc < 2 ^ k ∧ acc + 2 ^ k * leafN (bs.drop k) = R ∧ C3 wr w.heap.size v1 (.slice (some ⟨g2, 0, none⟩) L f2) v3 ∧ Below w.heap.size w wr) (fun _ i _ => L - (intOf i).toNat)
  case atStart => exact ⟨0, 0, Nat.zero_le _, rfl, rfl, by decide, by decide, by rw [List.drop_zero, unhide HR]; omega, unhide HT, unhide HK⟩
  case round =>
    clear t1 HT HK
    obtain ⟨k, acc, hk, rfl, rfl, a0, a1, he, ht, hbl⟩ := hrel
    have HE := hide he
    have HT := hide ht
    have HB := hide hbl
    have t1 := ht.2.1
    clear he ht
    by_cases hlt : k < L
    · have hk' : k < bs.length := by rw [← unhide HL]; exact hlt
      rcases ((unhide HH).call hbl).2 with h0 | ⟨cb, co, e0, hc⟩
      · omega
      cases e0
      have c1 := hc k hk'
      rw [Nat.zero_add] at c1
      have HD := hide (leafN_drop bs k hk')
      clear hc hbl
      generalize bs[k] = b at c1 HD
      rcases (show k = 0 ∨ k = 1 ∨ k = 2 by omega) with rfl | rfl | rfl
      · obtain rfl : acc = 0 := by omega
        cases b
        all_goals
          go_wp2_with fail
          refine (truth_c _ _).mono ?_
          rintro e w2 ⟨rfl, rfl⟩; (first | rw [oneN_f] | rw [oneN_t])
          go_wp2
          go_roundw
          case rel => exact ⟨1, _, by omega, by go_num, rfl, by decide, by decide, by have := unhide HE; have h2 := unhide HD; rw [h2] at this; simp [oneN, bor] at this ⊢; omega, unhide HT, unhide HB⟩
          case measure => simp [intOf]; omega
      · rcases (show acc = 0 ∨ acc = 1 by omega) with rfl | rfl
        all_goals
          cases b
          all_goals
            go_wp2_with fail
            refine (truth_c _ _).mono ?_
            rintro e w2 ⟨rfl, rfl⟩; (first | rw [oneN_f] | rw [oneN_t])
            go_wp2
            go_roundw
            case rel => exact ⟨2, _, by omega, by go_num, rfl, by decide, by decide, by have := unhide HE; have h2 := unhide HD; rw [h2] at this; simp [oneN, bor] at this ⊢; omega, unhide HT, unhide HB⟩
            case measure => simp [intOf]; omega
      · rcases (show acc = 0 ∨ acc = 1 ∨ acc = 2 ∨ acc = 3 by omega) with rfl | rfl | rfl | rfl
        all_goals
          cases b
          all_goals
            go_wp2_with fail
            refine (truth_c _ _).mono ?_
            rintro e w2 ⟨rfl, rfl⟩; (first | rw [oneN_f] | rw [oneN_t])
            go_wp2
            go_roundw
            case rel => exact ⟨3, _, by omega, by go_num, rfl, by decide, by decide, by have := unhide HE; have h2 := unhide HD; rw [h2] at this; simp [oneN, bor] at this ⊢; omega, unhide HT, unhide HB⟩
            case measure => simp [intOf]; omega
    · obtain rfl : k = L := by omega
      have E : Hid (acc = R) := by
        unfold Hid
        have := unhide HE
        rw [List.drop_of_length_le (by rw [unhide HL]; exact Nat.le_refl _)] at this
        simp [leafN] at this
        exact this
      clear hbl
      go_wp2
      go_ret
      exact ⟨by rw [← unhide E]; rfl, unhide HB⟩
end Go.Proofs.YthldhjifnpfmiaaGreatDoor
