/- Proved here: whatever the arguments, a call of laws.FnNumAdd returns true and leaves its arguments as they were. No condition beside the row's own. -/
import Derived.Test.YtghajfccanhmaaaRows
import Derived.WalkKit
import Derived.ProofKit
import Derived.OpenShut
import Derived.Test.YtghajfccanhmaaaSpecC
import Derived.Test.YtghajfccanhmaaaDrawC
import Derived.ShutString
import Derived.ChangeOld
import Derived.Below
namespace Go.Proofs.Ytghajfccanhmaaa.fnNumAdd
open Go.Iv
open Go.ChangeShapes Go.WideShapes Go.ChangeAt Go.RowKit
open Go.ChangeMaps (open_string shut_string)
set_option linter.unusedVariables false

theorem own : ownKnob Try.prog.godebug = none := by kernel_rfl
theorem laidOut : laidOutB Try.prog = true := by kernel_rfl

/-- WHAT THE WALK IS TOLD OF A SLICE OF INTEGERS THAT CAME IN: it is nil; or it leads to a row of 'cap' cells, the numbers 'zs' (the first 'len' are its elements, the rest its spare room), each fitting its kind. -/
def IsRow (k : IntKind) (w : World) (a : Option Addr) (len cap : Nat) (zs : List Int) : Prop :=
  (a = none ∧ len = 0 ∧ cap = 0 ∧ zs = []) ∨
  ∃ x, a = some x ∧ len ≤ cap ∧ cap ≤ maxLen ∧ zs.length = cap ∧ (∀ i, i < zs.length → w.cell? (x.add i) = some (.int k (zs.getD i 0))) ∧ ∀ n ∈ zs, (Lit.int k n).wf = true

/-! The walk of the law. -/
theorem walk (a0 : Option Addr) (len0 cap0 : Nat) (z0 : List Int) (w : World) (w0 : IsRow .u8 w a0 len0 cap0 z0) :
    Calls Try.prog 3 #[.slice a0 len0 cap0] w fun e w' => e = .returned (.bool true) ∧ Below w.heap.size w w' := by
  by_cases hbig : 1048576 < len0
  · have hm := row_len w0
    clear w0
    go_enter Try.func3, Try.ntmps3
    go_wp2_with fail
    refine (big_yes _ _ _ hbig hm _).mono ?_
    rintro e w' ⟨rfl, rfl⟩
    go_wp2
    go_ret
    exact ⟨rfl, Below.refl _ _⟩
  have hs : len0 ≤ 1048576 := by omega
  have CD : Hid (Code w a0 len0) := code_of_row w0 hs
  clear w0
  go_enter Try.func3, Try.ntmps3
  go_wp2_with fail
  refine (big_c _ _ _ hs _).mono ?_
  rintro e w' ⟨rfl, rfl⟩
  go_wp2_with fail
  refine (DrawNumAdd_c _ _ _ _ CD.out).mono ?_
  rintro e w1 ⟨a, b, rfl, ha, hb, hbl⟩
  have HA : Hid (In a) := ha
  have HB : Hid (In b) := hb
  have K1 : Hid (Below w'.heap.size w' w1) := hbl
  have CD1 : Hid (Code w1 a0 len0) := CD.out.below hbl
  have hc1 : b + a = a + b := Int.add_comm b a
  clear ha hb hbl CD
  go_wp2_with fail
  refine (NumAdd_c _ _ HA.out HB.out _).mono ?_
  rintro e w2 ⟨rfl, rfl⟩
  go_wp2_with fail
  refine (sNumAdd_c _ _ HA.out HB.out _).mono ?_
  rintro e w2 ⟨rfl, rfl⟩
  go_wp2_with fail
  refine (NumAdd_c _ _ HB.out HA.out _).mono ?_
  rintro e w2 ⟨rfl, rfl⟩
  rw [hc1]
  go_wp2_with fail
  refine (DrawNumMul_c _ _ _ _ CD1.out).mono ?_
  rintro e w3 ⟨x, y, rfl, hx, hy, hbl⟩
  have HX : Hid (In x) := hx
  have HY : Hid (In y) := hy
  have K3 : Hid (Below w'.heap.size w' w3) := K1.out.trans (hbl.mono K1.out.size)
  have hc2 : y * x = x * y := Int.mul_comm y x
  clear hx hy hbl CD1
  go_wp2_with fail
  refine (NumMul_c _ _ HX.out HY.out _).mono ?_
  rintro e w4 ⟨rfl, rfl⟩
  go_wp2_with fail
  refine (NumMul_c _ _ HY.out HX.out _).mono ?_
  rintro e w4 ⟨rfl, rfl⟩
  rw [hc2]
  go_wp2_with fail
  refine (sNumMul_c _ _ HX.out HY.out _).mono ?_
  rintro e w4 ⟨rfl, rfl⟩
  generalize clN (x * y) = p
  generalize clO (x * y) = o
  clear hc2
  rcases clO_cases (a + b) with ⟨h1, h2, h3⟩ | ⟨h1, h2, h3⟩ | ⟨h1, h2, h3⟩
  · rw [h1, h3]
    have ap : ¬ 0 < a := by have := HA.out; have := HB.out; unfold In at *; omega
    clear h1 h3 hc1
    go_wp2
    go_ret
    exact ⟨by first | rfl | exact ret_bool (by simp; omega), K3.out⟩
  · rw [h1, h3]
    have ap : 0 < a := by have := HA.out; have := HB.out; unfold In at *; omega
    clear h1 h3 hc1
    go_wp2
    go_ret
    exact ⟨by first | rfl | exact ret_bool (by simp; omega), K3.out⟩
  · rw [h1, h3]
    have hd : a + b - b = a := by omega
    have ca : Hid (clN a = a ∧ clO a = 0) := cl_in a HA.out
    have HS : Hid (In (a + b)) := h2
    clear h1 h3 hc1 h2
    go_wp2_with fail
    refine (NumSub_c _ _ HS.out HB.out _).mono ?_
    rintro e w5 ⟨rfl, rfl⟩
    rw [hd, ca.out.1, ca.out.2]
    go_wp2
    go_ret
    exact ⟨by first | rfl | exact ret_bool (by simp; omega), K3.out⟩

/-! The row's step, by the guide's shell. -/
set_option maxRecDepth 100000 in
theorem lifted (os : Os) (started : os.Started) (H : Type) (enc : TypeId × Value → H) :
    ReturnsInHanded {} Try.checked os 3 .any (Rows.fnNumAddSpec.pre6 enc Try.prog Try.f3 Rows.fnNumAddRow.domain false) (Rows.fnNumAddSpec.post enc Try.prog Try.f3 false true false false) := by
  refine returnsInHanded_of_change (C := Try.checked) own started (by kernel_rfl) Try.func3
    (ChangeSpec.witness6 (enc := enc) (C := Try.checked) false ⟨#[], #[.slice none 0 0], []⟩ 8 (by kernel_rfl) (by kernel_rfl) (by kernel_rfl) (by kernel_rfl)) ?_
  intro W base args ds gs before hval0 hW hcnd _
  have hval : ∀ (j : Nat) t v, Try.f3.params[j]? = some t → args[j]? = some v → Value.okWide Try.prog W .any base t v := hval0
  have hW' := hW
  obtain ⟨p, q, hA0, hV, rfl, hfz, hnd⟩ := hW
  have hA : DataW.TrodAll enc Try.prog W 0 (fun _ => true) true Try.f3.params.toList args.toList ds p := hA0
  rw [Try.params3] at hA hval
  obtain ⟨v0, vs0, d0, ds0, p0, q0, hargs, rfl, rfl, h0, r0⟩ := trodAll_cons hA
  obtain ⟨rfl, rfl, rfl⟩ := trodAll_nil r0
  obtain rfl : args = #[v0] := by cases args; simp_all
  obtain ⟨rfl, rfl⟩ := trodVars_none hV
  obtain ⟨a0, len0, cap0, rfl⟩ := okWide_slice Try.underlying22 (hval 0 22 v0 rfl rfl)
  have k0 := h0
  have lt0 : ∀ x ∈ p0, x.block < W.heap.size := by obtain ⟨m, hm⟩ := k0; exact DataW.trod_lt m _ _ _ hm
  obtain ⟨z0, w0⟩ : ∃ zs, IsRow .u8 W a0 len0 cap0 zs := by
    obtain ⟨fuel, hf⟩ := h0
    rcases open_ints Try.underlying22 Try.underlying5 (by kernel_rfl) hf with ⟨hcs, _⟩ | ⟨x, l, c, zs, hcs, _, hl, hm, hz, _, hcell, hwz⟩
    · simp [Value.cells] at hcs
      obtain ⟨rfl, rfl, rfl⟩ := hcs
      exact ⟨[], .inl ⟨rfl, rfl, rfl, rfl⟩⟩
    · simp [Value.cells] at hcs
      obtain ⟨rfl, rfl, rfl⟩ := hcs
      exact ⟨zs, .inr ⟨_, rfl, hl, hm, by simpa using hz, hcell, hwz⟩⟩
  clear hA0 hval0
  refine (walk a0 len0 cap0 z0 W w0).mono fun e W' ⟨he, bel⟩ => ?_
  subst he
  exact ⟨_, rfl, _, _, _, [], _, [], hW', trodAll_mk1 (shut_bool Try.underlying4 _), (trodAll_cons_mk (Below.trod laidOut (by kernel_rfl) (of_decide_eq_true (by kernel_rfl)) k0 bel lt0) trodAll_mk0), rfl, bel.frame _, fun h => by cases h⟩

theorem over : Rows.fnNumAddRow.holds Try.pinned (OpenSpec.ofChange Rows.fnNumAddSpec) :=
  OpenClaim.holds_of_wide 3 Try.f3 rfl rfl rfl rfl rfl rfl rfl ⟨rfl, rfl, rfl, rfl, rfl⟩ rfl rfl rfl rfl rfl (by kernel_rfl) Try.func3 (by kernel_rfl)
    (of_decide_eq_true (by kernel_rfl)) (by unfold Func.isWrapper; first | (rw [if_pos (by decide +kernel)]; kernel_rfl) | (rw [if_neg (by decide +kernel)]; exact ⟨rfl, rfl⟩))
    (fun os started H enc _ => lifted os started H enc)

end Go.Proofs.Ytghajfccanhmaaa.fnNumAdd

namespace Go.Proofs.Ytghajfccanhmaaa
/-- The given statement. -/
theorem fnNumAdd_holds : Rows.FnNumAddSaid := fnNumAdd.over
#print axioms fnNumAdd_holds
end Go.Proofs.Ytghajfccanhmaaa
