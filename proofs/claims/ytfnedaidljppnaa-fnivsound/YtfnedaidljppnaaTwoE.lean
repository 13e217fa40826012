/- A number of an interval, by a code. -/
import Derived.Test.YtfnedaidljppnaaTwoD
namespace Go.Proofs.Ytfnedaidljppnaa
open Go.RowKit Go.Iv
set_option linter.unusedSimpArgs false

theorem span_u64 (l h : Int) (hl : In l) (hh : In h) (hle : l ≤ h) : IntKind.u64.wrap (IntKind.u64.wrap h - IntKind.u64.wrap l) = h - l := by
  unfold In at hl hh
  simp only [IntKind.wrap_u64]
  omega
theorem wrap64_eq (n : Int) : wrap64 n = (n + 9223372036854775808) % 18446744073709551616 - 9223372036854775808 := by
  simp only [wrap64]
set_option maxHeartbeats 2000000 in
theorem within_c (l h : Int) (hl : In l) (hh : In h) (hle : l ≤ h) (a : Option Addr) (len cap : Nat) (i : Nat) (hi : i ≤ 100) (w : World) (hc : Code w a len) : Calls Try.prog 12 #[.agg #[.int .i64 l, .int .i64 h], .slice a len cap, .int .i64 i] w fun e w' => ∃ n : Int, e = .returned (.int .i64 n) ∧ l ≤ n ∧ n ≤ h ∧ Below w.heap.size w w' := by
  have HC := hide (hc.alloc (Obj.cells #[.int .i64 l, .int .i64 h] 25))
  have HI := hide (And.intro hl (And.intro hh hle))
  have hi' : (i : Int) ≤ 100 := by omega
  have K := hide ((Below.refl _ w).alloc (Nat.le_refl _) (Obj.cells #[.int .i64 l, .int .i64 h] 25))
  obtain ⟨D, hD⟩ : ∃ D, D = h - l := ⟨_, rfl⟩
  have qD : IntKind.u64.wrap (IntKind.u64.wrap h - IntKind.u64.wrap l) = D := by rw [hD]; exact span_u64 l h hl hh hle
  have HD := hide hD
  have d0 : 0 ≤ D := by omega
  have d1 : D ≤ 18446744073709551615 := by unfold In at hl hh; omega
  have HU := hide (IntKind.wrap_u64 l)
  obtain ⟨u, hu⟩ : ∃ u, IntKind.u64.wrap l = u := ⟨_, rfl⟩
  obtain ⟨t, ht⟩ : ∃ t, IntKind.u64.wrap h = t := ⟨_, rfl⟩
  rw [hu] at HU
  rw [hu, ht] at qD
  clear hl hh hle hc hD
  by_cases hf : D = 18446744073709551615
  · have q1 : IntKind.u64.wrap (D + 1) = 0 := by rw [hf, IntKind.wrap_u64]; rfl
    have HF := hide hf
    clear hf
    go_enter Try.func12, Try.ntmps12
    go_wp2_with fail
    refine (byteOf_c _ _ _ i (by omega) _ (unhide HC)).mono ?_
    rintro e w1 ⟨n1, rfl, a1, a2, rfl⟩
    go_wp2_with fail
    refine (byteOf_c _ _ _ (i + 1) (by omega) _ (unhide HC)).mono ?_
    rintro e w1 ⟨n2, rfl, b1, b2, rfl⟩
    go_wp2_with fail
    refine (byteOf_c _ _ _ (i + 2) (by omega) _ (unhide HC)).mono ?_
    rintro e w1 ⟨n3, rfl, c1, c2, rfl⟩
    go_wp2_with fail
    · go_ret
      exact ⟨l, rfl, by omega, (unhide HI).2.2, unhide K⟩
    · go_ret
      exact ⟨h, rfl, (unhide HI).2.2, by omega, unhide K⟩
    · go_ret
      refine ⟨_, rfl, ?_, ?_, unhide K⟩
      all_goals
        have hI := unhide HI
        have hE := unhide HD
        have hF := unhide HF
        unfold In at hI
        rw [wrap64_eq]
        omega
  · have d2 : D ≤ 18446744073709551614 := by omega
    have q1 : IntKind.u64.wrap (D + 1) = D + 1 := by rw [IntKind.wrap_u64]; omega
    have q2 : (D + 1 == 0) = false := by simp; omega
    clear hf
    go_enter Try.func12, Try.ntmps12
    go_wp2_with fail
    refine (byteOf_c _ _ _ i (by omega) _ (unhide HC)).mono ?_
    rintro e w1 ⟨n1, rfl, a1, a2, rfl⟩
    go_wp2_with fail
    refine (byteOf_c _ _ _ (i + 1) (by omega) _ (unhide HC)).mono ?_
    rintro e w1 ⟨n2, rfl, b1, b2, rfl⟩
    go_wp2_with fail
    refine (byteOf_c _ _ _ (i + 2) (by omega) _ (unhide HC)).mono ?_
    rintro e w1 ⟨n3, rfl, c1, c2, rfl⟩
    go_wp2_with fail
    · go_ret
      exact ⟨l, rfl, by omega, (unhide HI).2.2, unhide K⟩
    · go_ret
      exact ⟨h, rfl, (unhide HI).2.2, by omega, unhide K⟩
    · go_quiet (fail)
      go_wp2
      go_ret
      refine ⟨_, rfl, ?_, ?_, below_drewN (unhide K) _⟩
      all_goals
        have hI := unhide HI
        have hE := unhide HD
        have hU := unhide HU
        unfold In at hI
        have x0 : 0 ≤ IntKind.u64.wrap ((n1 * 257 + n2) * 281474976710597) := by rw [IntKind.wrap_u64]; omega
        rw [Int.tmod_eq_emod_of_nonneg x0]
        have r0 := Int.emod_nonneg (IntKind.u64.wrap ((n1 * 257 + n2) * 281474976710597)) (show D + 1 ≠ 0 by omega)
        have r1 := Int.emod_lt_of_pos (IntKind.u64.wrap ((n1 * 257 + n2) * 281474976710597)) (show 0 < D + 1 by omega)
        generalize IntKind.u64.wrap ((n1 * 257 + n2) * 281474976710597) % (D + 1) = r at r0 r1 ⊢
        rw [wrap64_eq, IntKind.wrap_u64]
        clear HC HI K HD HU hu ht qD q1 q2
        omega
end Go.Proofs.Ytfnedaidljppnaa
