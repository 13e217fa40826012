/- What the specification's numbers answer: the same as the program's. -/
import Derived.Test.YtfnedaidljppnaaNumC
namespace Go.Proofs.Ytfnedaidljppnaa
open Go.RowKit Go.Iv

theorem sNumAdd_c (a b : Int) (ha : In a) (hb : In b) (w : World) : Calls Try.prog 43 #[.int .i64 a, .int .i64 b] w fun e w' => e = .returned (.tuple #[.int .i64 (clN (a + b)), .int .i64 (clO (a + b))]) ∧ w' = w := by
  obtain ⟨ha1, ha2⟩ := ha
  obtain ⟨hb1, hb2⟩ := hb
  by_cases hp : 0 < b
  · by_cases hf : 9223372036854775807 < a + b
    · have H : Hid (clN (a + b) = 0 ∧ clO (a + b) = 1) := cl_high _ hf
      go_enter Try.func43, Try.ntmps43
      go_wp2
      go_ret2
      exact ⟨ret_int2 (by rw [H.out.1, H.out.2]; exact ⟨rfl, rfl⟩), rfl⟩
    · have H : Hid (clN (a + b) = a + b ∧ clO (a + b) = 0) := cl_in _ (by unfold In; omega)
      go_enter Try.func43, Try.ntmps43
      go_wp2
      go_ret2
      exact ⟨ret_int2 (by rw [H.out.1, H.out.2]; exact ⟨rfl, rfl⟩), rfl⟩
  · by_cases hn : b < 0
    · by_cases hf : a + b < -9223372036854775808
      · have H : Hid (clN (a + b) = 0 ∧ clO (a + b) = -1) := cl_low _ hf
        go_enter Try.func43, Try.ntmps43
        go_wp2
        go_ret2
        exact ⟨ret_int2 (by rw [H.out.1, H.out.2]; exact ⟨rfl, rfl⟩), rfl⟩
      · have H : Hid (clN (a + b) = a + b ∧ clO (a + b) = 0) := cl_in _ (by unfold In; omega)
        go_enter Try.func43, Try.ntmps43
        go_wp2
        go_ret2
        exact ⟨ret_int2 (by rw [H.out.1, H.out.2]; exact ⟨rfl, rfl⟩), rfl⟩
    · have H : Hid (clN (a + b) = a + b ∧ clO (a + b) = 0) := cl_in _ (by unfold In; omega)
      go_enter Try.func43, Try.ntmps43
      go_wp2
      go_ret2
      exact ⟨ret_int2 (by rw [H.out.1, H.out.2]; exact ⟨rfl, rfl⟩), rfl⟩
theorem sNumSub_c (a b : Int) (ha : In a) (hb : In b) (w : World) : Calls Try.prog 71 #[.int .i64 a, .int .i64 b] w fun e w' => e = .returned (.tuple #[.int .i64 (clN (a - b)), .int .i64 (clO (a - b))]) ∧ w' = w := by
  obtain ⟨ha1, ha2⟩ := ha
  obtain ⟨hb1, hb2⟩ := hb
  by_cases hn : b < 0
  · by_cases hf : 9223372036854775807 < a - b
    · have H : Hid (clN (a - b) = 0 ∧ clO (a - b) = 1) := cl_high _ hf
      go_enter Try.func71, Try.ntmps71
      go_wp2
      go_ret2
      exact ⟨ret_int2 (by rw [H.out.1, H.out.2]; exact ⟨rfl, rfl⟩), rfl⟩
    · have H : Hid (clN (a - b) = a - b ∧ clO (a - b) = 0) := cl_in _ (by unfold In; omega)
      go_enter Try.func71, Try.ntmps71
      go_wp2
      go_ret2
      exact ⟨ret_int2 (by rw [H.out.1, H.out.2]; exact ⟨rfl, rfl⟩), rfl⟩
  · by_cases hp : 0 < b
    · by_cases hf : a - b < -9223372036854775808
      · have H : Hid (clN (a - b) = 0 ∧ clO (a - b) = -1) := cl_low _ hf
        go_enter Try.func71, Try.ntmps71
        go_wp2
        go_ret2
        exact ⟨ret_int2 (by rw [H.out.1, H.out.2]; exact ⟨rfl, rfl⟩), rfl⟩
      · have H : Hid (clN (a - b) = a - b ∧ clO (a - b) = 0) := cl_in _ (by unfold In; omega)
        go_enter Try.func71, Try.ntmps71
        go_wp2
        go_ret2
        exact ⟨ret_int2 (by rw [H.out.1, H.out.2]; exact ⟨rfl, rfl⟩), rfl⟩
    · have H : Hid (clN (a - b) = a - b ∧ clO (a - b) = 0) := cl_in _ (by unfold In; omega)
      go_enter Try.func71, Try.ntmps71
      go_wp2
      go_ret2
      exact ⟨ret_int2 (by rw [H.out.1, H.out.2]; exact ⟨rfl, rfl⟩), rfl⟩
theorem sAbs_c (n : Int) (h : In n) (w : World) : Calls Try.prog 56 #[.int .i64 n] w fun e w' => e = .returned (.int .u64 (dist n)) ∧ w' = w := by
  have H : Hid (In n) := h
  clear h
  by_cases h : n < 0
  · go_enter Try.func56, Try.ntmps56
    go_wp2
    go_ret
    exact ⟨ret_int (by have := H.out; unfold In at this; simp only [IntKind.wrap_u64]; unfold dist; omega), rfl⟩
  · go_enter Try.func56, Try.ntmps56
    go_wp2
    go_ret
    exact ⟨ret_int (by have := H.out; unfold In at this; simp only [IntKind.wrap_u64]; unfold dist; omega), rfl⟩
theorem sNumRem_c (a b : Int) (ha : In a) (w : World) : Calls Try.prog 55 #[.int .i64 a, .int .i64 b] w fun e w' => e = .returned (.int .i64 (reN a b)) ∧ w' = w := by
  by_cases h0 : b = 0
  · have hz : (b == 0) = true := by simpa using h0
    have H : Hid (reN a b = 0) := by unfold reN; exact if_pos h0
    clear h0 ha
    go_enter Try.func55, Try.ntmps55
    go_wp2
    go_ret
    exact ⟨ret_int (by rw [H.out]), rfl⟩
  · have hz : (b == 0) = false := by simpa using h0
    by_cases h1 : b = -1
    · have hz1 : (b == -1) = true := by simpa using h1
      have H : Hid (reN a b = 0) := by
        unfold reN; rw [if_neg h0, h1]; show a.tmod (-1) = 0
        rw [Int.tmod_neg, Int.tmod_one]
      clear h0 h1 ha
      go_enter Try.func55, Try.ntmps55
      go_wp2
      go_ret
      exact ⟨ret_int (by rw [H.out]), rfl⟩
    · have hz1 : (b == -1) = false := by simpa using h1
      have H : Hid (reN a b = a.tmod b) := by unfold reN; exact if_neg h0
      have G : Hid (In (a.tmod b)) := tmod_in a b ha
      clear ha h1
      go_enter Try.func55, Try.ntmps55
      go_wp2
      go_ret
      exact ⟨ret_int (by rw [H.out]), rfl⟩
theorem sNumQuo_c (a b : Int) (ha : In a) (hb : In b) (w : World) : Calls Try.prog 73 #[.int .i64 a, .int .i64 b] w fun e w' => e = .returned (.tuple #[.int .i64 (quN a b), .int .i64 (quO a b)]) ∧ w' = w := by
  by_cases h0 : b = 0
  · have hz : (b == 0) = true := by simpa using h0
    have H : Hid (quN a b = 0 ∧ quO a b = 0) := by unfold quN quO; exact ⟨if_pos h0, if_pos h0⟩
    clear h0 ha hb
    go_enter Try.func73, Try.ntmps73
    go_wp2
    go_ret2
    exact ⟨ret_int2 (by rw [H.out.1, H.out.2]; exact ⟨rfl, rfl⟩), rfl⟩
  · have hz : (b == 0) = false := by simpa using h0
    by_cases h1 : b = -1
    · have hz1 : (b == -1) = true := by simpa using h1
      have H : Hid (quN a b = clN (-a) ∧ quO a b = clO (-a)) := by
        have e : a.tdiv b = -a := by rw [h1, Int.tdiv_neg, Int.tdiv_one]
        unfold quN quO; rw [if_neg h0, if_neg h0, e]; exact ⟨rfl, rfl⟩
      have HA : Hid (In a) := ha
      clear h0 h1 ha hb
      go_enter Try.func73, Try.ntmps73
      go_wp2_with fail
      refine (sNumSub_c _ _ (by unfold In; omega) HA.out _).mono ?_
      rintro e w' ⟨rfl, rfl⟩
      go_wp2
      go_ret2
      exact ⟨ret_int2 (by rw [H.out.1, H.out.2]; exact ⟨rfl, rfl⟩), rfl⟩
    · have hz1 : (b == -1) = false := by simpa using h1
      have hin : In (a.tdiv b) := by
        have h2 := tdiv_abs a b
        unfold In at *
        have h3 : a.natAbs / b.natAbs ≤ a.natAbs := Nat.div_le_self _ _
        by_cases hb1 : b = 1
        · rw [hb1, Int.tdiv_one]; exact ha
        · have h4 : a.natAbs / b.natAbs ≤ a.natAbs / 2 := Nat.div_le_div_left (by omega) (by decide)
          omega
      have H : Hid (quN a b = a.tdiv b ∧ quO a b = 0) := by
        unfold quN quO; rw [if_neg h0, if_neg h0]; exact cl_in _ hin
      have G : Hid (wrap64 (a.tdiv b) = a.tdiv b) := w64 _ hin
      clear ha hb h1 hin
      go_enter Try.func73, Try.ntmps73
      go_wp2
      go_ret2
      exact ⟨ret_int2 (by rw [H.out.1, H.out.2]; exact ⟨G.out, rfl⟩), rfl⟩
theorem sNumMul_c (a b : Int) (ha : In a) (hb : In b) (w : World) : Calls Try.prog 72 #[.int .i64 a, .int .i64 b] w fun e w' => e = .returned (.tuple #[.int .i64 (clN (a * b)), .int .i64 (clO (a * b))]) ∧ w' = w := by
  have HA : Hid (In a) := ha
  have HB : Hid (In b) := hb
  have ab := dist_in b hb
  have aa := dist_in a ha
  by_cases ha0 : a = 0
  · have hz : (a == 0) = true := by simpa using ha0
    have H : Hid (clN (a * b) = 0 ∧ clO (a * b) = 0) := by rw [ha0, Int.zero_mul]; exact cl_in 0 (by unfold In; omega)
    clear ha0 ha hb
    go_enter Try.func72, Try.ntmps72
    go_wp2
    go_ret2
    exact ⟨ret_int2 (by rw [H.out.1, H.out.2]; exact ⟨rfl, rfl⟩), rfl⟩
  by_cases hb0 : b = 0
  · have hz : (a == 0) = false := by simpa using ha0
    have hz' : (b == 0) = true := by simpa using hb0
    have H : Hid (clN (a * b) = 0 ∧ clO (a * b) = 0) := by rw [hb0, Int.mul_zero]; exact cl_in 0 (by unfold In; omega)
    clear ha0 hb0 ha hb
    go_enter Try.func72, Try.ntmps72
    go_wp2
    go_ret2
    exact ⟨ret_int2 (by rw [H.out.1, H.out.2]; exact ⟨rfl, rfl⟩), rfl⟩
  have hz : (a == 0) = false := by simpa using ha0
  have hz' : (b == 0) = false := by simpa using hb0
  have hd0 : dist b ≠ 0 := fun h => hb0 ((dist_zero b).1 h)
  have hdz : (dist b == 0) = false := by simpa using hd0
  have e1 : (9223372036854775808 : Int).tdiv (dist b) = 9223372036854775808 / dist b := Int.tdiv_eq_ediv_of_nonneg (by decide)
  have e2 := quo_wrap (dist b) (by omega)
  have e3 : (9223372036854775807 : Int).tdiv (dist b) = 9223372036854775807 / dist b := Int.tdiv_eq_ediv_of_nonneg (by decide)
  have e4 : IntKind.u64.wrap (9223372036854775807 / dist b) = 9223372036854775807 / dist b := by
    have h1 : 0 ≤ (9223372036854775807 : Int) / dist b := Int.ediv_nonneg (by decide) (by omega)
    have h2 : (9223372036854775807 : Int) / dist b ≤ 9223372036854775807 := Int.ediv_le_self _ (by decide)
    rw [IntKind.wrap_u64]; omega
  have ms := mul_sign a b
  have mm : ((a.natAbs * b.natAbs : Nat) : Int) = dist a * dist b := by unfold dist; exact Int.natCast_mul _ _
  rw [mm] at ms
  by_cases sg : (a < 0 ↔ b < 0)
  · rw [if_pos sg] at ms
    have sgn : (!(decide (a < 0) == decide (b < 0))) = false := by simp [sg]
    by_cases hf : (9223372036854775807 : Int) / dist b < dist a
    · have H : Hid (clN (a * b) = 0 ∧ clO (a * b) = 1) := cl_high _ (by rw [ms]; exact Int.lt_of_not_ge (fun h => absurd ((Int.le_ediv_iff_mul_le (by omega)).2 h) (by omega)))
      clear ha0 hb0 ha hb ms mm sg
      go_enter Try.func72, Try.ntmps72
      go_wp2_with fail
      refine (sAbs_c _ HA.out _).mono ?_
      rintro e w' ⟨rfl, rfl⟩
      go_wp2_with fail
      refine (sAbs_c _ HB.out _).mono ?_
      rintro e w' ⟨rfl, rfl⟩
      go_wp2
      go_ret2
      exact ⟨ret_int2 (by rw [H.out.1, H.out.2]; exact ⟨rfl, rfl⟩), rfl⟩
    · have hm : dist a * dist b ≤ 9223372036854775807 := (Int.le_ediv_iff_mul_le (by omega)).1 (by omega)
      have hm0 : 0 ≤ dist a * dist b := Int.mul_nonneg (by omega) (by omega)
      have hin : In (a * b) := by unfold In; rw [ms]; omega
      have H : Hid (clN (a * b) = a * b ∧ clO (a * b) = 0) := cl_in _ hin
      have G : Hid (wrap64 (a * b) = a * b) := w64 _ hin
      clear ha0 hb0 ha hb ms mm sg hm hm0 hin
      go_enter Try.func72, Try.ntmps72
      go_wp2_with fail
      refine (sAbs_c _ HA.out _).mono ?_
      rintro e w' ⟨rfl, rfl⟩
      go_wp2_with fail
      refine (sAbs_c _ HB.out _).mono ?_
      rintro e w' ⟨rfl, rfl⟩
      go_wp2
      go_ret2
      exact ⟨ret_int2 (by rw [H.out.1, H.out.2]; exact ⟨G.out, rfl⟩), rfl⟩
  · rw [if_neg sg] at ms
    have sgn : (!(decide (a < 0) == decide (b < 0))) = true := by
      by_cases h1 : a < 0 <;> by_cases h2 : b < 0 <;> simp [h1, h2] at sg ⊢
    by_cases hf : (9223372036854775808 : Int) / dist b < dist a
    · have H : Hid (clN (a * b) = 0 ∧ clO (a * b) = -1) := cl_low _ (by
        rw [ms]
        have : 9223372036854775808 < dist a * dist b := Int.lt_of_not_ge (fun h => absurd ((Int.le_ediv_iff_mul_le (by omega)).2 h) (by omega))
        omega)
      clear ha0 hb0 ha hb ms mm sg
      go_enter Try.func72, Try.ntmps72
      go_wp2_with fail
      refine (sAbs_c _ HA.out _).mono ?_
      rintro e w' ⟨rfl, rfl⟩
      go_wp2_with fail
      refine (sAbs_c _ HB.out _).mono ?_
      rintro e w' ⟨rfl, rfl⟩
      go_wp2
      go_ret2
      exact ⟨ret_int2 (by rw [H.out.1, H.out.2]; exact ⟨rfl, rfl⟩), rfl⟩
    · have hm : dist a * dist b ≤ 9223372036854775808 := (Int.le_ediv_iff_mul_le (by omega)).1 (by omega)
      have hm0 : 0 ≤ dist a * dist b := Int.mul_nonneg (by omega) (by omega)
      have hin : In (a * b) := by unfold In; rw [ms]; omega
      have H : Hid (clN (a * b) = a * b ∧ clO (a * b) = 0) := cl_in _ hin
      have G : Hid (wrap64 (a * b) = a * b) := w64 _ hin
      clear ha0 hb0 ha hb ms mm sg hm hm0 hin
      go_enter Try.func72, Try.ntmps72
      go_wp2_with fail
      refine (sAbs_c _ HA.out _).mono ?_
      rintro e w' ⟨rfl, rfl⟩
      go_wp2_with fail
      refine (sAbs_c _ HB.out _).mono ?_
      rintro e w' ⟨rfl, rfl⟩
      go_wp2
      go_ret2
      exact ⟨ret_int2 (by rw [H.out.1, H.out.2]; exact ⟨G.out, rfl⟩), rfl⟩
end Go.Proofs.Ytfnedaidljppnaa
