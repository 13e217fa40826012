/- A number within an interval, by a code. -/
import Derived.Test.YthpnbmdmkmkicaaDoorGrwC
import Derived.Test.YthpnbmdmkmkicaaDoorMeZ
namespace Go.Proofs.YthpnbmdmkmkicaaDoor
open Go.RowKit Go.Iv
set_option linter.unusedSimpArgs false
set_option linter.unusedVariables false

theorem wrap_mid (l N r : Int) (hl : In l) (h0 : 0 ≤ r) (h1 : r ≤ N) (hN : In (l + N)) : wrap64 (IntKind.u64.wrap (IntKind.u64.wrap l + r)) = l + r := by
  unfold In at hl hN
  rw [IntKind.wrap_u64, IntKind.wrap_u64]
  unfold wrap64
  omega
set_option maxRecDepth 20000 in
set_option maxHeartbeats 4000000 in
theorem within_c (l g : Int) (a : Option Addr) (len cap : Nat) (at_ : Int) (hl : In l) (hg : In g) (hlg : l ≤ g) (hat : 0 ≤ at_ ∧ at_ ≤ 1099511627776) (w : World) (h : Code w a len) :
    Calls Tryd.prog 26 #[.agg #[.int .i64 l, .int .i64 g], .slice a len cap, .int .i64 at_] w fun e w' => (∃ n : Int, e = .returned (.int .i64 n) ∧ l ≤ n ∧ n ≤ g) ∧ Below w.heap.size w w' := by
  have HC := hide h
  have HI := hide (And.intro hl (And.intro hg hlg))
  obtain ⟨t0, t1⟩ := hat
  have HB := hide (CI.new w l g 47)
  have HK := hide ((Below.refl _ w).alloc (Nat.le_refl _) (Obj.cells #[.int .i64 l, .int .i64 g] 47))
  unfold In at hl hg
  clear h
  go_enter Tryd.func26, Tryd.ntmps26
  go_upto_region 1 with fail
  generalize w.alloc (Obj.cells #[.int .i64 l, .int .i64 g] 47) = u at HB HK ⊢
  have b0 := (unhide HB).1
  have b1 := (unhide HB).2.1
  go_wp2_with fail
  refine (byteOf_c a len cap _ (by constructor <;> omega) _ ((unhide HC).below (unhide HK))).mono ?_
  rintro e w' ⟨⟨n1, rfl, n1a, n1b⟩, hw⟩
  subst w'
  go_wp2_with fail
  refine (byteOf_c a len cap _ (by constructor <;> omega) _ ((unhide HC).below (unhide HK))).mono ?_
  rintro e w' ⟨⟨n2, rfl, n2a, n2b⟩, hw⟩
  subst w'
  go_wp2_with fail
  refine (byteOf_c a len cap _ (by constructor <;> omega) _ ((unhide HC).below (unhide HK))).mono ?_
  rintro e w' ⟨⟨n3, rfl, n3a, n3b⟩, hw⟩
  subst w'
  obtain ⟨r, hr⟩ : ∃ r, Int.tmod n3 4 = r := ⟨_, rfl⟩
  by_cases r0 : r = 0
  · have e0 : (r == 0) = true := by simp [r0]
    go_wp2
    go_ret
    exact ⟨⟨l, rfl, by omega, by omega⟩, unhide HK⟩
  have e0 : (r == 0) = false := by simp [r0]
  by_cases r1 : r = 1
  · have e1 : (r == 1) = true := by simp [r1]
    go_wp2
    go_ret
    exact ⟨⟨g, rfl, by omega, by omega⟩, unhide HK⟩
  have e1 : (r == 1) = false := by simp [r1]
  go_upto_region 8 with fail
  have hN : IntKind.u64.wrap (IntKind.u64.wrap g - IntKind.u64.wrap l) = g - l := by rw [IntKind.wrap_u64, IntKind.wrap_u64, IntKind.wrap_u64]; omega
  rw [hN]
  obtain ⟨N, hNe⟩ : ∃ N, N = g - l := ⟨_, rfl⟩
  rw [← hNe]
  have N0 : 0 ≤ N := by omega
  have HNE := hide hNe
  obtain ⟨k, hk⟩ : ∃ k, k = n1 * 257 + n2 := ⟨_, rfl⟩
  rw [← hk]
  have k0 : 0 ≤ k := by omega
  have k1 : k ≤ 65790 := by omega
  clear hk hN hNe e0 e1 r0 r1 hr n1a n1b n2a n2b n3a n3b
  by_cases hfull : N = 18446744073709551615
  · have HF := hide hfull
    have hW : IntKind.u64.wrap (N + 1) = 0 := by rw [hfull]; rfl
    clear hfull
    go_wp2
    go_ret
    refine ⟨⟨_, rfl, ?_, ?_⟩, unhide HK⟩
    · have q := unhide HNE
      have q2 := unhide HF
      refine Int.le_trans (show l ≤ -9223372036854775808 by omega) ?_
      first | exact (wrap_in _).1 | (unfold wrap64; omega) | skip
    · have q := unhide HNE
      have q2 := unhide HF
      refine Int.le_trans ?_ (show 9223372036854775807 ≤ g by omega)
      first | exact (wrap_in _).2 | (unfold wrap64; omega) | skip
  have N1 : N ≤ 18446744073709551614 := by have := unhide HNE; omega
  have hz : ((N + 1 : Int) == 0) = false := by simp; omega
  have hz2 : ¬ (N + 1 : Int) = 0 := by omega
  clear hfull
  have hW2 : IntKind.u64.wrap (N + 1) = N + 1 := by rw [IntKind.wrap_u64]; omega
  obtain ⟨R, hR⟩ : ∃ R, Int.tmod (IntKind.u64.wrap (k * 281474976710597)) (N + 1) = R := ⟨_, rfl⟩
  have R0 : 0 ≤ R := by rw [← hR]; exact Int.tmod_nonneg _ (by rw [IntKind.wrap_u64]; omega)
  have R1 : R ≤ N := by have := Int.tmod_lt_of_pos (IntKind.u64.wrap (k * 281474976710597)) (show (0 : Int) < N + 1 by omega); omega
  have hS : wrap64 (IntKind.u64.wrap (IntKind.u64.wrap l + R)) = l + R := wrap_mid l N R ⟨hl.1, hl.2⟩ R0 R1 (by have := unhide HNE; unfold In; omega)
  have hS2 : IntKind.i64.wrap (IntKind.u64.wrap (IntKind.u64.wrap l + R)) = l + R := by rw [IntKind.wrap_i64]; have q := hS; unfold wrap64 at q; omega
  go_upto_region 10 with fail
  clear b1
  refine wp_region_held_drew (S := fun u9 => u9.cell? ⟨w.heap.size, 0, none⟩ = some (.int .i64 l) ∧ Hid (Below w.heap.size w u9)) (by kernel_rfl) ⟨b0, hide (unhide HK).drew⟩ (fun hHeld => ?_)
  refine wpAnyH_take (i := 0) (oi := { dst := some 45, op := Op.fieldAddr 47 (Operand.tmp 3) 0, type := 0, pos := "laws.go:214", after := #[], guard := none }) (v := ?_) rfl (by kernel_rfl) (by kernel_rfl) (by kernel_rfl) (fun _ _ _ h => h) (Or.inl ⟨by rfl, ?_⟩) (by assumption) ?_
  rotate_left
  · (intro w9 hSw; (try dsimp only at hSw); go_simp; try with_reducible rfl)
  try simp only [Act.put, List.setIfInBounds_toArray, List.set_cons_zero, List.set_cons_succ]
  refine wpAnyH_take (i := 1) (oi := { dst := some 46, op := Op.load 2 (Operand.tmp 45), type := 2, pos := "laws.go:214", after := #[{ on := 0, ground := Ground.data }], guard := none }) (v := ?_) rfl (by kernel_rfl) (by kernel_rfl) (by kernel_rfl) (fun _ _ _ h => h) (Or.inl ⟨by rfl, ?_⟩) (by assumption) ?_
  rotate_left
  · (intro w9 hSw; (try dsimp only at hSw); go_simp; try with_reducible rfl)
  try simp only [Act.put, List.setIfInBounds_toArray, List.set_cons_zero, List.set_cons_succ]
  refine wpAnyH_take (i := 2) (oi := { dst := some 47, op := Op.convert 2 96 (Operand.tmp 46), type := 96, pos := "laws.go:214", after := #[{ on := 1, ground := Ground.data }], guard := none }) (v := ?_) rfl (by kernel_rfl) (by kernel_rfl) (by kernel_rfl) (fun _ _ _ h => h) (Or.inl ⟨by rfl, ?_⟩) (by assumption) ?_
  rotate_left
  · (intro w9 hSw; (try dsimp only at hSw); go_simp; try with_reducible rfl)
  try simp only [Act.put, List.setIfInBounds_toArray, List.set_cons_zero, List.set_cons_succ]
  refine wpAnyH_take (i := 3) (oi := { dst := some 48, op := Op.move (Operand.tmp 8), type := 96, pos := "laws.go:214", after := #[], guard := none }) (v := ?_) rfl (by kernel_rfl) (by kernel_rfl) (by kernel_rfl) (fun _ _ _ h => h) (Or.inl ⟨by rfl, ?_⟩) (by assumption) ?_
  rotate_left
  · (intro w9 hSw; (try dsimp only at hSw); go_simp; try with_reducible rfl)
  try simp only [Act.put, List.setIfInBounds_toArray, List.set_cons_zero, List.set_cons_succ]
  refine wpAnyH_take (i := 4) (oi := { dst := some 49, op := Op.binOp BinOp.mul 96 (Operand.tmp 48) (Operand.const (Value.int IntKind.u64 281474976710597)) 96, type := 96, pos := "laws.go:214", after := #[{ on := 3, ground := Ground.data }], guard := none }) (v := ?_) rfl (by kernel_rfl) (by kernel_rfl) (by kernel_rfl) (fun _ _ _ h => h) (Or.inl ⟨by rfl, ?_⟩) (by assumption) ?_
  rotate_left
  · (intro w9 hSw; (try dsimp only at hSw); go_simp; try with_reducible rfl)
  try simp only [Act.put, List.setIfInBounds_toArray, List.set_cons_zero, List.set_cons_succ]
  refine wpAnyH_take (i := 5) (oi := { dst := some 50, op := Op.move (Operand.tmp 7), type := 96, pos := "laws.go:214", after := #[], guard := none }) (v := ?_) rfl (by kernel_rfl) (by kernel_rfl) (by kernel_rfl) (fun _ _ _ h => h) (Or.inl ⟨by rfl, ?_⟩) (by assumption) ?_
  rotate_left
  · (intro w9 hSw; (try dsimp only at hSw); go_simp; try with_reducible rfl)
  try simp only [Act.put, List.setIfInBounds_toArray, List.set_cons_zero, List.set_cons_succ]
  refine wpAnyH_take (i := 6) (oi := { dst := some 51, op := Op.binOp BinOp.add 96 (Operand.tmp 50) (Operand.const (Value.int IntKind.u64 1)) 96, type := 96, pos := "laws.go:214", after := #[{ on := 5, ground := Ground.data }], guard := none }) (v := ?_) rfl (by kernel_rfl) (by kernel_rfl) (by kernel_rfl) (fun _ _ _ h => h) (Or.inl ⟨by rfl, ?_⟩) (by assumption) ?_
  rotate_left
  · (intro w9 hSw; (try dsimp only at hSw); go_simp; try with_reducible rfl)
  try simp only [Act.put, List.setIfInBounds_toArray, List.set_cons_zero, List.set_cons_succ]
  refine wpAnyH_take (i := 7) (oi := { dst := some 52, op := Op.binOp BinOp.rem 96 (Operand.tmp 49) (Operand.tmp 51) 96, type := 96, pos := "laws.go:214", after := #[{ on := 4, ground := Ground.data }, { on := 6, ground := Ground.data }], guard := none }) (v := ?_) rfl (by kernel_rfl) (by kernel_rfl) (by kernel_rfl) (fun _ _ _ h => h) (Or.inl ⟨by rfl, ?_⟩) (by assumption) ?_
  rotate_left
  · (intro w9 hSw; (try dsimp only at hSw); go_simp; try with_reducible rfl)
  try simp only [Act.put, List.setIfInBounds_toArray, List.set_cons_zero, List.set_cons_succ]
  refine wpAnyH_take (i := 8) (oi := { dst := some 53, op := Op.binOp BinOp.add 96 (Operand.tmp 47) (Operand.tmp 52) 96, type := 96, pos := "laws.go:214", after := #[{ on := 2, ground := Ground.data }, { on := 7, ground := Ground.data }], guard := none }) (v := ?_) rfl (by kernel_rfl) (by kernel_rfl) (by kernel_rfl) (fun _ _ _ h => h) (Or.inl ⟨by rfl, ?_⟩) (by assumption) ?_
  rotate_left
  · (intro w9 hSw; (try dsimp only at hSw); go_simp; try with_reducible rfl)
  try simp only [Act.put, List.setIfInBounds_toArray, List.set_cons_zero, List.set_cons_succ]
  refine wpAnyH_take (i := 9) (oi := { dst := some 54, op := Op.convert 96 2 (Operand.tmp 53), type := 2, pos := "laws.go:214", after := #[{ on := 8, ground := Ground.data }], guard := none }) (v := ?_) rfl (by kernel_rfl) (by kernel_rfl) (by kernel_rfl) (fun _ _ _ h => h) (Or.inl ⟨by rfl, ?_⟩) (by assumption) ?_
  rotate_left
  · (intro w9 hSw; (try dsimp only at hSw); go_simp; try with_reducible rfl)
  try simp only [Act.put, List.setIfInBounds_toArray, List.set_cons_zero, List.set_cons_succ]
  refine wpAnyH_take (i := 10) (oi := { dst := some 6, op := Op.assign (Operand.tmp 54), type := 2, pos := "laws.go:214", after := #[{ on := 9, ground := Ground.data }, { on := 0, ground := Ground.phase }, { on := 1, ground := Ground.phase }, { on := 2, ground := Ground.phase }, { on := 3, ground := Ground.phase }, { on := 4, ground := Ground.phase }, { on := 5, ground := Ground.phase }, { on := 6, ground := Ground.phase }, { on := 7, ground := Ground.phase }, { on := 8, ground := Ground.phase }, { on := 9, ground := Ground.phase }], guard := none }) (v := ?_) rfl (by kernel_rfl) (by kernel_rfl) (by kernel_rfl) (fun _ _ _ h => h) (Or.inl ⟨by rfl, ?_⟩) (by assumption) ?_
  rotate_left
  · (intro w9 hSw; (try dsimp only at hSw); go_simp; try with_reducible rfl)
  try simp only [Act.put, List.setIfInBounds_toArray, List.set_cons_zero, List.set_cons_succ]
  refine wpAnyH_done (by kernel_rfl) ?_ _
  go_wp2
  go_ret
  refine ⟨⟨l + R, rfl, ?_, ?_⟩, (unhide HK).drew⟩
  omega
  have := unhide HNE
  omega
end Go.Proofs.YthpnbmdmkmkicaaDoor
