/- Small numbers in decimal. -/
import Derived.Test.YtppchebikafmeaaDoorTokC
import Derived.Test.YtppchebikafmeaaDoorShf
import Derived.Laws.BytesArg
namespace Go.Proofs.YtppchebikafmeaaDoor
open Go.RowKit
set_option linter.unusedSimpArgs false
set_option linter.unusedVariables false

def decB (n : Nat) : ByteArray := ⟨(Lib.decDigits n).toArray⟩
theorem decB_one (n : Nat) (h : n < 10) : strOfNums [48 + (n : Int)] ++ (⟨#[]⟩ : ByteArray) = decB n := by
  unfold decB Lib.decDigits
  rw [dif_pos h]
  have e : ((48 : Int) + (n : Int)).toNat = 48 + n := by omega
  simp [strOfNums, e]
  rfl
theorem decB_two (n : Nat) (h : ¬ n < 10) (h2 : n < 100) : strOfNums [48 + (n : Int) / 10] ++ (strOfNums [48 + (n : Int) % 10] ++ (⟨#[]⟩ : ByteArray)) = decB n := by
  unfold decB
  rw [Lib.decDigits, dif_neg h, Lib.decDigits, dif_pos (by omega)]
  have e1 : ((48 : Int) + (n : Int) / 10).toNat = 48 + n / 10 := by omega
  have e2 : ((48 : Int) + (n : Int) % 10).toNat = 48 + n % 10 := by omega
  simp [strOfNums, e1, e2]
  rfl
theorem decB_size (n : Nat) (h : n < 100) : (decB n).size ≤ 2 := by
  unfold decB
  by_cases h1 : n < 10
  · rw [Lib.decDigits, dif_pos h1]; simp [ByteArray.size]
  · rw [Lib.decDigits, dif_neg h1, Lib.decDigits, dif_pos (by omega)]; simp [ByteArray.size]
set_option maxRecDepth 20000 in
set_option maxHeartbeats 4000000 in
theorem l1Dec_c (n : Nat) (h : n < 100) (w : World) : Calls Tryd.prog 32 #[.int .i64 (n : Int)] w fun e w' => e = .returned (.string (decB n)) ∧ Below w.heap.size w w' := by
  have h' : (n : Int) < 100 := by omega
  by_cases h1 : n < 10
  · have h1' : (n : Int) < 10 := by omega
    have HD := hide (decB_one n h1)
    go_enter Tryd.func32, Tryd.ntmps32
    go_wp2
    go_loopw [3, 4] (fun m s wr => m = .int .u64 (n : Int) ∧ s = .string ⟨#[]⟩ ∧ wr = w) (fun _ _ _ => 0)
    case atStart => exact ⟨rfl, rfl, rfl⟩
    case round =>
      obtain ⟨rfl, rfl, rfl⟩ := hrel
      have hcv := run_convert_bytes_arg (P := Tryd.prog) (wr.alloc (Obj.cells #[.int .u8 (48 + (n : Int))] 5)) 22 5 Tryd.underlying22 Tryd.underlying5 wr.heap.size 0 1 1 [48 + (n : Int)] rfl (fun i hi => by cases i with | zero => simp | succ j => omega) 9 Tryd.underlying9
      have hsz := strOfNums_size [48 + (n : Int)]
      generalize strOfNums [48 + (n : Int)] = q at hcv hsz HD
      simp at hsz
      go_wp2
      go_ret
      exact ⟨by rw [unhide HD]; rfl, (Below.refl _ _).alloc (Nat.le_refl _) _⟩
  · have h1' : (10 : Int) ≤ (n : Int) := by omega
    have HD := hide (decB_two n h1 h)
    have e1 : (n : Int) / 10 < 10 := by omega
    have e2 : 0 ≤ (n : Int) / 10 := by omega
    have e3 : 0 ≤ (n : Int) % 10 := by omega
    have e4 : (n : Int) % 10 < 10 := by omega
    go_enter Tryd.func32, Tryd.ntmps32
    go_wp2
    go_loopw [3, 4] (fun m s wr => (m = .int .u64 (n : Int) ∧ s = .string ⟨#[]⟩ ∧ wr = w) ∨ (m = .int .u64 ((n : Int) / 10) ∧ s = .string (strOfNums [48 + (n : Int) % 10] ++ (⟨#[]⟩ : ByteArray)) ∧ Below w.heap.size w wr)) (fun m _ _ => (intOf m).toNat)
    case atStart => exact .inl ⟨rfl, rfl, rfl⟩
    case round =>
      rcases hrel with ⟨rfl, rfl, rfl⟩ | ⟨rfl, rfl, hb⟩
      · have hcv := run_convert_bytes_arg (P := Tryd.prog) (wr.alloc (Obj.cells #[.int .u8 (48 + (n : Int) % 10)] 5)) 22 5 Tryd.underlying22 Tryd.underlying5 wr.heap.size 0 1 1 [48 + (n : Int) % 10] rfl (fun i hi => by cases i with | zero => simp | succ j => omega) 9 Tryd.underlying9
        have hsz := strOfNums_size [48 + (n : Int) % 10]
        simp at hsz
        go_wp2
        exact ⟨.inr ⟨rfl, rfl, (Below.refl _ _).alloc (Nat.le_refl _) _⟩, by simp [intOf]; omega⟩
      · have HB := hide hb
        have hcv := run_convert_bytes_arg (P := Tryd.prog) (wr.alloc (Obj.cells #[.int .u8 (48 + (n : Int) / 10)] 5)) 22 5 Tryd.underlying22 Tryd.underlying5 wr.heap.size 0 1 1 [48 + (n : Int) / 10] rfl (fun i hi => by cases i with | zero => simp | succ j => omega) 9 Tryd.underlying9
        have hsz := strOfNums_size [48 + (n : Int) / 10]
        have hsz2 := strOfNums_size [48 + (n : Int) % 10]
        generalize strOfNums [48 + (n : Int) / 10] = q at hcv hsz HD
        generalize strOfNums [48 + (n : Int) % 10] = q2 at hsz2 HD ⊢
        simp at hsz hsz2
        clear hb
        go_wp2
        go_ret
        exact ⟨by rw [unhide HD]; rfl, (unhide HB).alloc (unhide HB).size _⟩
theorem decimal_c (n : Nat) (h : n < 100) (w : World) : Calls Tryd.prog 22 #[.int .i64 (n : Int)] w fun e w' => e = .returned (.string (decB n)) ∧ w' = w := by
  go_enter Tryd.func22, Tryd.ntmps22
  go_wp2_with fail
  refine (Tryd.strconv_FormatInt_10_small n h w).mono ?_
  rintro e w1 ⟨rfl, rfl⟩
  go_wp2
  go_ret
  exact ⟨rfl, rfl⟩
end Go.Proofs.YtppchebikafmeaaDoor
