/- What the program's and the specification's numbers answer, function by function: each call returns just that, and the world stays. -/
import Derived.Test.YtfnedaidljppnaaRows
import Derived.Test.YtfnedaidljppnaaMathA
import Derived.WalkKit
import Derived.Deep.QuietTactic
import Derived.Deep.RegionWith
import Derived.BigQuiet
namespace Go.Proofs.Ytfnedaidljppnaa
open Go.RowKit Go.Iv

theorem ret_int {k : IntKind} {a b : Int} (h : a = b) : Ending.returned (.int k a) = .returned (.int k b) := by rw [h]
theorem ret_int2 {k l : IntKind} {a b c d : Int} (h : a = b ∧ c = d) : Ending.returned (.tuple #[.int k a, .int l c]) = .returned (.tuple #[.int k b, .int l d]) := by rw [h.1, h.2]

theorem signBit_c (n : Int) (h : In n) (w : World) : Calls Try.prog 57 #[.int .i64 n] w fun e w' => e = .returned (.int .u64 (signN n)) ∧ w' = w := by
  go_enter Try.func57, Try.ntmps57
  go_wp2
  go_ret
  exact ⟨ret_int (signN_eq n h), rfl⟩
theorem signBit_k (n k : Int) (h : In n) (hk : signN n = k) (w : World) : Calls Try.prog 57 #[.int .i64 n] w fun e w' => e = .returned (.int .u64 k) ∧ w' = w := by
  subst hk
  exact signBit_c n h w
theorem sideOf_c (n : Int) (h : In n) (w : World) : Calls Try.prog 58 #[.int .i64 n] w fun e w' => e = .returned (.int .i64 (sideN n)) ∧ w' = w := by
  go_enter Try.func58, Try.ntmps58
  go_wp2
  go_ret
  exact ⟨ret_int (sideN_eq n h), rfl⟩
theorem distance_c (n : Int) (h : In n) (w : World) : Calls Try.prog 59 #[.int .i64 n] w fun e w' => e = .returned (.int .u64 (dist n)) ∧ w' = w := by
  have H : Hid (In n) := h
  clear h
  by_cases h : n < 0
  · go_enter Try.func59, Try.ntmps59
    go_wp2
    go_ret
    exact ⟨ret_int (by have := H.out; unfold In at this; simp only [IntKind.wrap_u64]; unfold dist; omega), rfl⟩
  · go_enter Try.func59, Try.ntmps59
    go_wp2
    go_ret
    exact ⟨ret_int (by have := H.out; unfold In at this; simp only [IntKind.wrap_u64]; unfold dist; omega), rfl⟩
theorem belowZero_c (n : Int) (h0 : 0 ≤ n) (w : World) : Calls Try.prog 70 #[.int .u64 n] w fun e w' => e = .returned (.tuple #[.int .i64 (clN (-n)), .int .i64 (clO (-n))]) ∧ w' = w := by
  by_cases h : (9223372036854775808 : Int) < n
  · have H : Hid (clN (-n) = 0 ∧ clO (-n) = -1) := cl_low _ (by omega)
    go_enter Try.func70, Try.ntmps70
    go_wp2
    go_ret2
    exact ⟨ret_int2 ⟨H.out.1.symm, H.out.2.symm⟩, rfl⟩
  · have H : Hid (clN (-n) = -n ∧ clO (-n) = 0) := cl_in _ (by unfold In; omega)
    go_enter Try.func70, Try.ntmps70
    go_wp2
    go_ret2
    exact ⟨ret_int2 ⟨by rw [H.out.1]; unfold wrap64; simp only [IntKind.wrap_u64]; omega, H.out.2.symm⟩, rfl⟩
theorem atDistance_c (far neg : Int) (h0 : 0 ≤ far) (h2 : far < 18446744073709551616) (w : World) : Calls Try.prog 60 #[.int .u64 far, .int .u64 neg] w fun e w' => e = .returned (.tuple #[.int .i64 (clN (atD far neg)), .int .i64 (clO (atD far neg))]) ∧ w' = w := by
  by_cases hn : (neg == 1) = true
  · have H : Hid (atD far neg = -far) := by unfold atD; rw [if_pos (by simpa using hn)]; exact rfl
    go_enter Try.func60, Try.ntmps60
    go_wp2_with fail
    refine (belowZero_c _ h0 _).mono ?_
    rintro e w' ⟨rfl, rfl⟩
    go_wp2
    go_ret2
    exact ⟨ret_int2 (by rw [H.out]; exact ⟨rfl, rfl⟩), rfl⟩
  · have hn' : (neg == 1) = false := by simpa using hn
    have H : Hid (atD far neg = far) := by unfold atD; rw [if_neg (by simpa using hn)]; exact rfl
    clear hn
    by_cases h : (9223372036854775808 : Int) ≤ far
    · have G := cl_high far (by omega)
      have G' : Hid (clN far = 0 ∧ clO far = 1) := G
      clear G
      go_enter Try.func60, Try.ntmps60
      go_wp2
      go_ret2
      exact ⟨ret_int2 (by rw [H.out]; exact ⟨G'.out.1.symm, G'.out.2.symm⟩), rfl⟩
    · have G := cl_in far (by unfold In; omega)
      have G' : Hid (clN far = far ∧ clO far = 0) := G
      clear G
      go_enter Try.func60, Try.ntmps60
      go_wp2
      go_ret2
      exact ⟨ret_int2 (by rw [H.out, G'.out.1, G'.out.2]; exact ⟨by first | rfl | (unfold wrap64; omega), rfl⟩), rfl⟩

theorem NumAdd_c (a b : Int) (ha : In a) (hb : In b) (w : World) : Calls Try.prog 33 #[.int .i64 a, .int .i64 b] w fun e w' => e = .returned (.tuple #[.int .i64 (clN (a + b)), .int .i64 (clO (a + b))]) ∧ w' = w := by
  have HA : Hid (In a) := ha
  have HB : Hid (In b) := hb
  by_cases hs : In (a + b)
  · have H1 : Hid (clN (a + b) = a + b ∧ clO (a + b) = 0) := cl_in _ hs
    have H2 : Hid (signN (bits .and .i64 (bits .xor .i64 a (addW a b)) (bits .xor .i64 b (addW a b))) = 0) := by
      have := (not_congr (add_sign a b ha hb)).2 (fun h => h hs)
      unfold signN; exact if_neg this
    have H3 : Hid (addW a b = a + b) := by rw [addW_eq]; exact w64 _ hs
    clear hs ha hb
    go_enter Try.func33, Try.ntmps33
    go_wp2_with fail
    refine (signBit_k _ 0 (and_in _ _) H2.out _).mono ?_
    rintro e w' ⟨rfl, rfl⟩
    go_wp2
    go_ret2
    exact ⟨ret_int2 (by rw [H1.out.1, H1.out.2]; exact ⟨H3.out, rfl⟩), rfl⟩
  · have H1 : Hid (clN (a + b) = 0 ∧ clO (a + b) = sideN a) := add_over a b ha hb hs
    have H2 : Hid (signN (bits .and .i64 (bits .xor .i64 a (addW a b)) (bits .xor .i64 b (addW a b))) = 1) := by
      have := (add_sign a b ha hb).2 hs
      unfold signN; exact if_pos this
    clear hs ha hb
    go_enter Try.func33, Try.ntmps33
    go_wp2_with fail
    refine (signBit_k _ 1 (and_in _ _) H2.out _).mono ?_
    rintro e w' ⟨rfl, rfl⟩
    go_wp2_with fail
    refine (sideOf_c _ HA.out _).mono ?_
    rintro e w' ⟨rfl, rfl⟩
    go_wp2
    go_ret2
    exact ⟨ret_int2 (by rw [H1.out.1, H1.out.2]; exact ⟨rfl, rfl⟩), rfl⟩

theorem NumSub_c (a b : Int) (ha : In a) (hb : In b) (w : World) : Calls Try.prog 34 #[.int .i64 a, .int .i64 b] w fun e w' => e = .returned (.tuple #[.int .i64 (clN (a - b)), .int .i64 (clO (a - b))]) ∧ w' = w := by
  have HA : Hid (In a) := ha
  have HB : Hid (In b) := hb
  by_cases hs : In (a - b)
  · have H1 : Hid (clN (a - b) = a - b ∧ clO (a - b) = 0) := cl_in _ hs
    have H2 : Hid (signN (bits .and .i64 (bits .xor .i64 a b) (bits .xor .i64 a (subW a b))) = 0) := by
      have := (not_congr (sub_sign a b ha hb)).2 (fun h => h hs)
      unfold signN; exact if_neg this
    have H3 : Hid (subW a b = a - b) := by rw [subW_eq]; exact w64 _ hs
    clear hs ha hb
    go_enter Try.func34, Try.ntmps34
    go_wp2_with fail
    refine (signBit_k _ 0 (and_in _ _) H2.out _).mono ?_
    rintro e w' ⟨rfl, rfl⟩
    go_wp2
    go_ret2
    exact ⟨ret_int2 (by rw [H1.out.1, H1.out.2]; exact ⟨H3.out, rfl⟩), rfl⟩
  · have H1 : Hid (clN (a - b) = 0 ∧ clO (a - b) = sideN a) := sub_over a b ha hb hs
    have H2 : Hid (signN (bits .and .i64 (bits .xor .i64 a b) (bits .xor .i64 a (subW a b))) = 1) := by
      have := (sub_sign a b ha hb).2 hs
      unfold signN; exact if_pos this
    clear hs ha hb
    go_enter Try.func34, Try.ntmps34
    go_wp2_with fail
    refine (signBit_k _ 1 (and_in _ _) H2.out _).mono ?_
    rintro e w' ⟨rfl, rfl⟩
    go_wp2_with fail
    refine (sideOf_c _ HA.out _).mono ?_
    rintro e w' ⟨rfl, rfl⟩
    go_wp2
    go_ret2
    exact ⟨ret_int2 (by rw [H1.out.1, H1.out.2]; exact ⟨rfl, rfl⟩), rfl⟩
theorem quo_wrap (y : Int) (h : 0 < y) : IntKind.u64.wrap (9223372036854775808 / y) = 9223372036854775808 / y := by
  have h1 : 0 ≤ (9223372036854775808 : Int) / y := Int.ediv_nonneg (by decide) (by omega)
  have h2 : (9223372036854775808 : Int) / y ≤ 9223372036854775808 := Int.ediv_le_self _ (by decide)
  rw [IntKind.wrap_u64]; omega
theorem NumMul_c (a b : Int) (ha : In a) (hb : In b) (w : World) : Calls Try.prog 35 #[.int .i64 a, .int .i64 b] w fun e w' => e = .returned (.tuple #[.int .i64 (clN (a * b)), .int .i64 (clO (a * b))]) ∧ w' = w := by
  have HA : Hid (In a) := ha
  have HB : Hid (In b) := hb
  have ab := (dist_in b hb)
  have aa := (dist_in a ha)
  by_cases hy : ((dist b) != 0) = true
  · have hy' : (dist b) ≠ 0 := by simpa using hy
    have hq : ((dist b) == 0) = false := by simpa using hy'
    have e1 : (9223372036854775808 : Int).tdiv (dist b) = 9223372036854775808 / (dist b) := Int.tdiv_eq_ediv_of_nonneg (by decide)
    have e2 := quo_wrap (dist b) (by omega)
    by_cases hf : (9223372036854775808 : Int) / (dist b) < (dist a)
    · have H1 : Hid (clN (a * b) = 0 ∧ clO (a * b) = sideN (bits .xor .i64 a b)) := mul_far a b ha hb hy' hf
      clear ha hb
      go_enter Try.func35, Try.ntmps35
      go_wp2_with fail
      refine (distance_c _ HA.out _).mono ?_
      rintro e w' ⟨rfl, rfl⟩
      go_wp2_with fail
      refine (distance_c _ HB.out _).mono ?_
      rintro e w' ⟨rfl, rfl⟩
      go_wp2_with fail
      refine (sideOf_c _ (xor_in _ _) _).mono ?_
      rintro e w' ⟨rfl, rfl⟩
      go_wp2
      go_ret2
      exact ⟨ret_int2 (by rw [H1.out.1, H1.out.2]; exact ⟨rfl, rfl⟩), rfl⟩
    · have hm := mul_near a.natAbs b.natAbs (.inr (by unfold dist at hf; exact hf))
      have hm0 : (0 : Int) ≤ (dist a) * (dist b) := Int.mul_nonneg (by omega) (by omega)
      have hm' : (dist a) * (dist b) ≤ 9223372036854775808 := by unfold dist; rw [← Int.natCast_mul]; omega
      have ew : IntKind.u64.wrap ((dist a) * (dist b)) = (dist a) * (dist b) := by rw [IntKind.wrap_u64]; omega
      have H1 : Hid (atD ((dist a) * (dist b)) (signN (bits .xor .i64 a b)) = a * b) := atD_mul a b ha hb
      clear ha hb hm
      go_enter Try.func35, Try.ntmps35
      go_wp2_with fail
      refine (distance_c _ HA.out _).mono ?_
      rintro e w' ⟨rfl, rfl⟩
      go_wp2_with fail
      refine (distance_c _ HB.out _).mono ?_
      rintro e w' ⟨rfl, rfl⟩
      go_wp2_with fail
      refine (signBit_c _ (xor_in _ _) _).mono ?_
      rintro e w' ⟨rfl, rfl⟩
      go_wp2_with fail
      refine (atDistance_c _ _ (by omega) (by omega) _).mono ?_
      rintro e w' ⟨rfl, rfl⟩
      go_wp2
      go_ret2
      exact ⟨ret_int2 (by rw [H1.out]; exact ⟨rfl, rfl⟩), rfl⟩
  · have hy1 : (dist b) = 0 := by simpa using hy
    have hy0 : ((dist b) != 0) = false := by simpa using hy1
    have hm0 : (0 : Int) ≤ (dist a) * (dist b) := Int.mul_nonneg (by omega) (by omega)
    have hm' : (dist a) * (dist b) ≤ 9223372036854775808 := by rw [hy1]; omega
    have ew : IntKind.u64.wrap ((dist a) * (dist b)) = (dist a) * (dist b) := by rw [IntKind.wrap_u64]; omega
    have H1 : Hid (atD ((dist a) * (dist b)) (signN (bits .xor .i64 a b)) = a * b) := atD_mul a b ha hb
    clear ha hb hy hy1
    go_enter Try.func35, Try.ntmps35
    go_wp2_with fail
    refine (distance_c _ HA.out _).mono ?_
    rintro e w' ⟨rfl, rfl⟩
    go_wp2_with fail
    refine (distance_c _ HB.out _).mono ?_
    rintro e w' ⟨rfl, rfl⟩
    go_wp2_with fail
    refine (signBit_c _ (xor_in _ _) _).mono ?_
    rintro e w' ⟨rfl, rfl⟩
    go_wp2_with fail
    refine (atDistance_c _ _ (by omega) (by omega) _).mono ?_
    rintro e w' ⟨rfl, rfl⟩
    go_wp2
    go_ret2
    exact ⟨ret_int2 (by rw [H1.out]; exact ⟨rfl, rfl⟩), rfl⟩
theorem NumQuo_c (a b : Int) (ha : In a) (hb : In b) (w : World) : Calls Try.prog 36 #[.int .i64 a, .int .i64 b] w fun e w' => e = .returned (.tuple #[.int .i64 (quN a b), .int .i64 (quO a b)]) ∧ ∃ m, w' = w.drewN m := by
  have HA : Hid (In a) := ha
  have HB : Hid (In b) := hb
  have ab := (dist_in b hb)
  have aa := (dist_in a ha)
  by_cases h0 : b = 0
  · have hz : (b == 0) = true := by simpa using h0
    have H : Hid (quN a b = 0 ∧ quO a b = 0) := by unfold quN quO; exact ⟨if_pos h0, if_pos h0⟩
    clear h0 ha hb ab aa
    go_enter Try.func36, Try.ntmps36
    go_wp2
    go_ret2
    exact ⟨ret_int2 (by rw [H.out.1, H.out.2]; exact ⟨rfl, rfl⟩), 0, rfl⟩
  · have hz : (b == 0) = false := by simpa using h0
    have hd0 : dist b ≠ 0 := fun h => h0 ((dist_zero b).1 h)
    have hz2 : ((dist b) == 0) = false := by simpa using hd0
    have H : Hid (quN a b = clN (a.tdiv b) ∧ quO a b = clO (a.tdiv b)) := by unfold quN quO; exact ⟨if_neg h0, if_neg h0⟩
    have H1 : Hid (atD ((dist a) / (dist b)) (signN (bits .xor .i64 a b)) = a.tdiv b) := atD_quo a b ha hb h0
    have e1 : (dist a).tdiv (dist b) = (dist a) / (dist b) := Int.tdiv_eq_ediv_of_nonneg (by omega)
    have q0 : 0 ≤ (dist a) / (dist b) := Int.ediv_nonneg (by omega) (by omega)
    have q1 : (dist a) / (dist b) ≤ (dist a) := Int.ediv_le_self _ (by omega)
    have ew : IntKind.u64.wrap ((dist a) / (dist b)) = (dist a) / (dist b) := by rw [IntKind.wrap_u64]; omega
    clear h0 ha hb
    go_enter Try.func36, Try.ntmps36
    go_wp2_with fail
    go_quiet (first
      | (go_at_call_of 59 (Value.int IntKind.i64 a); exact Calls.quiet_of_same (distance_c _ HA.out _))
      | (go_at_call_of 59 (Value.int IntKind.i64 b); exact Calls.quiet_of_same (distance_c _ HB.out _))
      | (go_at_call 57; exact Calls.quiet_of_same (signBit_c _ (xor_in _ _) _))
      | (go_at_call 60; exact Calls.quiet_of_same (atDistance_c _ _ (by omega) (by omega) _)))
    go_wp2
    go_ret2
    exact ⟨ret_int2 (by rw [H.out.1, H.out.2, H1.out]; exact ⟨rfl, rfl⟩), _, rfl⟩
theorem NumRem_c (a b : Int) (ha : In a) (w : World) : Calls Try.prog 37 #[.int .i64 a, .int .i64 b] w fun e w' => e = .returned (.int .i64 (reN a b)) ∧ w' = w := by
  by_cases h0 : b = 0
  · have hz : (b == 0) = true := by simpa using h0
    have H : Hid (reN a b = 0) := by unfold reN; exact if_pos h0
    clear h0 ha
    go_enter Try.func37, Try.ntmps37
    go_wp2
    go_ret
    exact ⟨ret_int (by rw [H.out]), rfl⟩
  · have hz : (b == 0) = false := by simpa using h0
    have H : Hid (reN a b = a.tmod b) := by unfold reN; exact if_neg h0
    have G : Hid (In (a.tmod b)) := tmod_in a b ha
    clear ha
    go_enter Try.func37, Try.ntmps37
    go_wp2
    go_ret
    exact ⟨ret_int (by rw [H.out]), rfl⟩
end Go.Proofs.Ytfnedaidljppnaa
