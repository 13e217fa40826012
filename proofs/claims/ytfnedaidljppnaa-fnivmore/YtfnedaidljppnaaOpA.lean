/- The program's corners: which is less, what lies between two. -/
import Derived.Test.YtfnedaidljppnaaIvC
import Derived.Test.YtfnedaidljppnaaMathC
namespace Go.Proofs.Ytfnedaidljppnaa
open Go.RowKit Go.Iv
set_option linter.unusedSimpArgs false

theorem less_c (x y : Int) (w : World) : Calls Try.prog 65 #[.agg #[.int .i64 (clN x), .int .i64 (clO x)], .agg #[.int .i64 (clN y), .int .i64 (clO y)]] w fun e w' => e = .returned (.bool (lessB x y)) ∧ Below w.heap.size w w' := by
  by_cases h : clO x = clO y
  · have h1 : (clO x == clO y) = true := by simpa using h
    have H : Hid (lessB x y = decide (clN x < clN y)) := by unfold lessB Hid; rw [if_neg (by simpa using h)]
    generalize clO x = a at *
    generalize clO y = b at *
    generalize clN x = c at *
    generalize clN y = d at *
    subst h
    go_enter Try.func65, Try.ntmps65
    go_wp2
    go_ret
    exact ⟨ret_bool (by rw [H.out]), ((Below.refl _ _).alloc (Nat.le_refl _) _).alloc (by simp) _⟩
  · have h1 : (clO x == clO y) = false := by simpa using h
    have H : Hid (lessB x y = decide (clO x < clO y)) := by unfold lessB Hid; rw [if_pos h]
    generalize clO x = a at *
    generalize clO y = b at *
    generalize clN x = c at *
    generalize clN y = d at *
    clear h
    go_enter Try.func65, Try.ntmps65
    go_wp2
    go_ret
    exact ⟨ret_bool (by rw [H.out]), ((Below.refl _ _).alloc (Nat.le_refl _) _).alloc (by simp) _⟩

theorem between_c (m M : Int) (hmM : m ≤ M) (w : World) : Calls Try.prog 66 #[.agg #[.int .i64 (clN m), .int .i64 (clO m)], .agg #[.int .i64 (clN M), .int .i64 (clO M)]] w fun e w' => e = .returned (.agg #[.int .i64 (span m M).lo, .int .i64 (span m M).hi, .bool (span m M).live, .int .i64 (span m M).al]) ∧ Below w.heap.size w w' := by
  rcases clO_cases m with ⟨a, b, c⟩ | ⟨a, b, c⟩ | ⟨a, b, c⟩ <;> rcases clO_cases M with ⟨a', b', c'⟩ | ⟨a', b', c'⟩ | ⟨a', b', c'⟩
  · have H : Hid (span m M = ⟨0, 0, false, 4⟩) := by
      (try unfold In at *); unfold span Hid; rw [if_pos (by omega)]
    rw [a, c, a', c']
    clear a c a' c' b b' hmM
    go_enter Try.func66, Try.ntmps66
    go_wp2
    exact bodyPost_ret (v := .agg #[.int .i64 0, .int .i64 0, .bool false, .int .i64 4]) (by simp [results, Try.results66, go_sem]) rfl ⟨by rw [H.out], ((((Below.refl _ _).alloc (Nat.le_refl _) _).alloc (by simp) _).alloc (by simp; omega) _).alloc (by simp; omega) _⟩
  · have H : Hid (span m M = ⟨(-9223372036854775808), 9223372036854775807, true, 4⟩) := by
      (try unfold In at *); unfold span Hid; rw [if_neg (by omega), if_pos (by omega)]; congr 1 <;> omega
    rw [a, c, a', c']
    clear a c a' c' b b' hmM
    go_enter Try.func66, Try.ntmps66
    go_wp2
    exact bodyPost_ret (v := .agg #[.int .i64 (-9223372036854775808), .int .i64 9223372036854775807, .bool true, .int .i64 4]) (by simp [results, Try.results66, go_sem]) rfl ⟨by rw [H.out], ((((Below.refl _ _).alloc (Nat.le_refl _) _).alloc (by simp) _).alloc (by simp; omega) _).alloc (by simp; omega) _⟩
  · have H : Hid (span m M = ⟨(-9223372036854775808), M, true, 4⟩) := by
      (try unfold In at *); unfold span Hid; rw [if_neg (by omega), if_pos (by omega)]; congr 1 <;> omega
    rw [a, c, a', c']
    clear a c a' c' b b' hmM
    go_enter Try.func66, Try.ntmps66
    go_wp2
    exact bodyPost_ret (v := .agg #[.int .i64 (-9223372036854775808), .int .i64 M, .bool true, .int .i64 4]) (by simp [results, Try.results66, go_sem]) rfl ⟨by rw [H.out], ((((Below.refl _ _).alloc (Nat.le_refl _) _).alloc (by simp) _).alloc (by simp; omega) _).alloc (by simp; omega) _⟩
  · exfalso; (try unfold In at *); omega
  · have H : Hid (span m M = ⟨0, 0, false, 4⟩) := by
      (try unfold In at *); unfold span Hid; rw [if_pos (by omega)]
    rw [a, c, a', c']
    clear a c a' c' b b' hmM
    go_enter Try.func66, Try.ntmps66
    go_wp2
    exact bodyPost_ret (v := .agg #[.int .i64 0, .int .i64 0, .bool false, .int .i64 4]) (by simp [results, Try.results66, go_sem]) rfl ⟨by rw [H.out], ((((Below.refl _ _).alloc (Nat.le_refl _) _).alloc (by simp) _).alloc (by simp; omega) _).alloc (by simp; omega) _⟩
  · exfalso; (try unfold In at *); omega
  · exfalso; (try unfold In at *); omega
  · have H : Hid (span m M = ⟨m, 9223372036854775807, true, 4⟩) := by
      (try unfold In at *); unfold span Hid; rw [if_neg (by omega), if_pos (by omega)]; congr 1 <;> omega
    rw [a, c, a', c']
    clear a c a' c' b b' hmM
    go_enter Try.func66, Try.ntmps66
    go_wp2
    exact bodyPost_ret (v := .agg #[.int .i64 m, .int .i64 9223372036854775807, .bool true, .int .i64 4]) (by simp [results, Try.results66, go_sem]) rfl ⟨by rw [H.out], ((((Below.refl _ _).alloc (Nat.le_refl _) _).alloc (by simp) _).alloc (by simp; omega) _).alloc (by simp; omega) _⟩
  · have H : Hid (span m M = ⟨m, M, true, 0⟩) := by
      (try unfold In at *); unfold span Hid; rw [if_neg (by omega), if_neg (by omega)]; congr 1 <;> omega
    rw [a, c, a', c']
    clear a c a' c' b b' hmM
    go_enter Try.func66, Try.ntmps66
    go_wp2
    exact bodyPost_ret (v := .agg #[.int .i64 m, .int .i64 M, .bool true, .int .i64 0]) (by simp [results, Try.results66, go_sem]) rfl ⟨by rw [H.out], ((((Below.refl _ _).alloc (Nat.le_refl _) _).alloc (by simp) _).alloc (by simp; omega) _).alloc (by simp; omega) _⟩

/-- The alarm of a division. -/
def dvA (l h : Int) : Int := if hasB l h 0 then 1 else 0
theorem divAlarm_c (l h : Int) (w : World) : Calls Try.prog 50 #[.agg #[.int .i64 l, .int .i64 h]] w fun e w' => e = .returned (.int .i64 (dvA l h)) ∧ Below w.heap.size w w' := by
  by_cases hh : hasB l h 0 = true
  · rw [show dvA l h = 1 from if_pos hh]
    go_enter Try.func50, Try.ntmps50
    go_wp2_with fail
    refine (IvHas_c _ _ _ _).mono ?_
    rintro e w1 ⟨rfl, hb1⟩
    have K1 : Hid (Below w.heap.size w w1) := ((Below.refl _ _).alloc (Nat.le_refl _) _).trans (hb1.mono (by simp))
    clear hb1
    go_wp2
    go_ret
    exact ⟨rfl, K1.out⟩
  · rw [show dvA l h = 0 from if_neg hh]
    have hh' : hasB l h 0 = false := by simpa using hh
    clear hh
    go_enter Try.func50, Try.ntmps50
    go_wp2_with fail
    refine (IvHas_c _ _ _ _).mono ?_
    rintro e w1 ⟨rfl, hb1⟩
    have K1 : Hid (Below w.heap.size w w1) := ((Below.refl _ _).alloc (Nat.le_refl _) _).trans (hb1.mono (by simp))
    clear hb1
    go_wp2
    go_ret
    exact ⟨rfl, K1.out⟩
end Go.Proofs.Ytfnedaidljppnaa
