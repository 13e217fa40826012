/- Proved here: whatever the arguments, a call of laws.FnIvOne returns true and leaves its arguments as they were. No condition beside the row's own. -/
import Derived.Test.YtfnedaidljppnaaRows
import Derived.WalkKit
import Derived.ProofKit
import Derived.OpenShut
import Derived.ShutString
import Derived.ChangeOld
import Derived.Below
import Derived.Lib.SmallJoins
import Derived.Test.YtfnedaidljppnaaReadC
import Derived.Test.YtfnedaidljppnaaDrawC
import Derived.Test.YtfnedaidljppnaaIvC
import Derived.Test.YtfnedaidljppnaaIvD
import Derived.Test.YtfnedaidljppnaaTwoM
namespace Go.Proofs.Ytfnedaidljppnaa.fnIvOne
open Go.Iv
open Go.ChangeShapes Go.WideShapes Go.ChangeAt Go.RowKit
open Go.ChangeMaps (open_string shut_string)
set_option linter.unusedVariables false
set_option linter.unusedSimpArgs false

theorem own : ownKnob Try.prog.godebug = none := by kernel_rfl
theorem laidOut : laidOutB Try.prog = true := by kernel_rfl

/-- What the walk is told of a slice of integers that came in. -/
def IsRow (k : IntKind) (w : World) (a : Option Addr) (len cap : Nat) (zs : List Int) : Prop :=
  (a = none ∧ len = 0 ∧ cap = 0 ∧ zs = []) ∨
  ∃ x, a = some x ∧ len ≤ cap ∧ cap ≤ maxLen ∧ zs.length = cap ∧ (∀ i, i < zs.length → w.cell? (x.add i) = some (.int k (zs.getD i 0))) ∧ ∀ n ∈ zs, (Lit.int k n).wf = true

/-! The walk of the law. -/
set_option maxRecDepth 100000 in
set_option maxHeartbeats 16000000 in
theorem walk (a0 : Option Addr) (len0 cap0 : Nat) (z0 : List Int) (w : World) (w0 : IsRow .u8 w a0 len0 cap0 z0) :
    Calls Try.prog 5 #[.slice a0 len0 cap0] w fun e w' => e = .returned (.bool true) ∧ Below w.heap.size w w' := by
  --HEAVIER
  by_cases hbig : 1048576 < len0
  · have hm := row_len w0
    clear w0
    go_enter Try.func5, Try.ntmps5
    go_wp2_with fail
    refine (big_yes _ _ _ hbig hm _).mono ?_
    rintro e w' ⟨rfl, rfl⟩
    go_wp2
    go_ret
    exact ⟨rfl, Below.refl _ _⟩
  have hs : len0 ≤ 1048576 := by omega
  have CD := hide (code_of_row w0 hs)
  clear w0 hbig
  go_enter Try.func5, Try.ntmps5
  go_wp2_with fail
  refine (big_c _ _ _ hs _).mono ?_
  rintro e w' ⟨rfl, rfl⟩
  go_wp2_with fail
  refine (DrawNumSub_c _ _ _ _ (unhide CD)).mono ?_
  rintro e w1 ⟨a, b, rfl, ha, hb, hbe⟩
  have HI := hide (And.intro ha hb)
  have K1 := hide hbe
  have CD1 := hide ((unhide CD).below hbe)
  clear ha hb hbe CD
  go_wp2_with fail
  refine (byteOf_c _ _ _ 4 (by decide) _ (unhide CD1)).mono ?_
  rintro e w1' ⟨n, rfl, n0, n1, rfl⟩
  clear CD1
  go_wp2_with fail
  have hk : n % 5 = 0 ∨ n % 5 = 1 ∨ n % 5 = 2 ∨ n % 5 = 3 ∨ n % 5 = 4 := by omega
  rcases hk with hk | hk | hk | hk | hk
  · rw [hk]
    clear hk n0 n1
    rcases clO_cases (a + b) with ⟨hx, h1, h2⟩ | ⟨hx, h1, h2⟩ | ⟨hx, h1, h2⟩
    · refine (op0_c a a b b (unhide HI).1 (unhide HI).1 (unhide HI).2 (unhide HI).2 _).mono ?_
      rintro e w2 ⟨rfl, hb2⟩
      rw [cor_one, span_out _ (by unfold In; omega)]
      have K2 := hide ((unhide K1).trans (hb2.mono (unhide K1).size))
      clear hb2 K1
      go_wp2_with fail
      refine (num0_c _ _ (unhide HI).1 (unhide HI).2 _).mono ?_
      rintro e w3 ⟨rfl, m, rfl⟩
      rw [hx, h2]
      clear h1 h2 hx
      go_wp2
      go_ret
      exact ⟨by simp, below_drewN (((unhide K2).alloc (unhide K2).size _).alloc (by have := (unhide K2).size; simp; omega) _) m⟩
    · refine (op0_c a a b b (unhide HI).1 (unhide HI).1 (unhide HI).2 (unhide HI).2 _).mono ?_
      rintro e w2 ⟨rfl, hb2⟩
      rw [cor_one, span_out _ (by unfold In; omega)]
      have K2 := hide ((unhide K1).trans (hb2.mono (unhide K1).size))
      clear hb2 K1
      go_wp2_with fail
      refine (num0_c _ _ (unhide HI).1 (unhide HI).2 _).mono ?_
      rintro e w3 ⟨rfl, m, rfl⟩
      rw [hx, h2]
      clear h1 h2 hx
      go_wp2
      go_ret
      exact ⟨by simp, below_drewN (((unhide K2).alloc (unhide K2).size _).alloc (by have := (unhide K2).size; simp; omega) _) m⟩
    · refine (op0_c a a b b (unhide HI).1 (unhide HI).1 (unhide HI).2 (unhide HI).2 _).mono ?_
      rintro e w2 ⟨rfl, hb2⟩
      rw [cor_one, span_in _ h1]
      have K2 := hide ((unhide K1).trans (hb2.mono (unhide K1).size))
      clear hb2 K1
      go_wp2_with fail
      refine (num0_c _ _ (unhide HI).1 (unhide HI).2 _).mono ?_
      rintro e w3 ⟨rfl, m, rfl⟩
      rw [hx, h2]
      clear h1 h2 hx
      go_wp2
      go_ret
      exact ⟨by simp, below_drewN (((unhide K2).alloc (unhide K2).size _).alloc (by have := (unhide K2).size; simp; omega) _) m⟩
  · rw [hk]
    clear hk n0 n1
    rcases clO_cases (a - b) with ⟨hx, h1, h2⟩ | ⟨hx, h1, h2⟩ | ⟨hx, h1, h2⟩
    · refine (op1_c a a b b (unhide HI).1 (unhide HI).1 (unhide HI).2 (unhide HI).2 _).mono ?_
      rintro e w2 ⟨rfl, hb2⟩
      rw [cor_one, span_out _ (by unfold In; omega)]
      have K2 := hide ((unhide K1).trans (hb2.mono (unhide K1).size))
      clear hb2 K1
      go_wp2_with fail
      refine (num1_c _ _ (unhide HI).1 (unhide HI).2 _).mono ?_
      rintro e w3 ⟨rfl, m, rfl⟩
      rw [hx, h2]
      clear h1 h2 hx
      go_wp2
      go_ret
      exact ⟨by simp, below_drewN (((unhide K2).alloc (unhide K2).size _).alloc (by have := (unhide K2).size; simp; omega) _) m⟩
    · refine (op1_c a a b b (unhide HI).1 (unhide HI).1 (unhide HI).2 (unhide HI).2 _).mono ?_
      rintro e w2 ⟨rfl, hb2⟩
      rw [cor_one, span_out _ (by unfold In; omega)]
      have K2 := hide ((unhide K1).trans (hb2.mono (unhide K1).size))
      clear hb2 K1
      go_wp2_with fail
      refine (num1_c _ _ (unhide HI).1 (unhide HI).2 _).mono ?_
      rintro e w3 ⟨rfl, m, rfl⟩
      rw [hx, h2]
      clear h1 h2 hx
      go_wp2
      go_ret
      exact ⟨by simp, below_drewN (((unhide K2).alloc (unhide K2).size _).alloc (by have := (unhide K2).size; simp; omega) _) m⟩
    · refine (op1_c a a b b (unhide HI).1 (unhide HI).1 (unhide HI).2 (unhide HI).2 _).mono ?_
      rintro e w2 ⟨rfl, hb2⟩
      rw [cor_one, span_in _ h1]
      have K2 := hide ((unhide K1).trans (hb2.mono (unhide K1).size))
      clear hb2 K1
      go_wp2_with fail
      refine (num1_c _ _ (unhide HI).1 (unhide HI).2 _).mono ?_
      rintro e w3 ⟨rfl, m, rfl⟩
      rw [hx, h2]
      clear h1 h2 hx
      go_wp2
      go_ret
      exact ⟨by simp, below_drewN (((unhide K2).alloc (unhide K2).size _).alloc (by have := (unhide K2).size; simp; omega) _) m⟩
  · rw [hk]
    clear hk n0 n1
    rcases clO_cases (a * b) with ⟨hx, h1, h2⟩ | ⟨hx, h1, h2⟩ | ⟨hx, h1, h2⟩
    · refine (op2_c a a b b (unhide HI).1 (unhide HI).1 (unhide HI).2 (unhide HI).2 _).mono ?_
      rintro e w2 ⟨rfl, hb2⟩
      rw [cor_one, span_out _ (by unfold In; omega)]
      have K2 := hide ((unhide K1).trans (hb2.mono (unhide K1).size))
      clear hb2 K1
      go_wp2_with fail
      refine (num2_c _ _ (unhide HI).1 (unhide HI).2 _).mono ?_
      rintro e w3 ⟨rfl, m, rfl⟩
      rw [hx, h2]
      clear h1 h2 hx
      go_wp2
      go_ret
      exact ⟨by simp, below_drewN (((unhide K2).alloc (unhide K2).size _).alloc (by have := (unhide K2).size; simp; omega) _) m⟩
    · refine (op2_c a a b b (unhide HI).1 (unhide HI).1 (unhide HI).2 (unhide HI).2 _).mono ?_
      rintro e w2 ⟨rfl, hb2⟩
      rw [cor_one, span_out _ (by unfold In; omega)]
      have K2 := hide ((unhide K1).trans (hb2.mono (unhide K1).size))
      clear hb2 K1
      go_wp2_with fail
      refine (num2_c _ _ (unhide HI).1 (unhide HI).2 _).mono ?_
      rintro e w3 ⟨rfl, m, rfl⟩
      rw [hx, h2]
      clear h1 h2 hx
      go_wp2
      go_ret
      exact ⟨by simp, below_drewN (((unhide K2).alloc (unhide K2).size _).alloc (by have := (unhide K2).size; simp; omega) _) m⟩
    · refine (op2_c a a b b (unhide HI).1 (unhide HI).1 (unhide HI).2 (unhide HI).2 _).mono ?_
      rintro e w2 ⟨rfl, hb2⟩
      rw [cor_one, span_in _ h1]
      have K2 := hide ((unhide K1).trans (hb2.mono (unhide K1).size))
      clear hb2 K1
      go_wp2_with fail
      refine (num2_c _ _ (unhide HI).1 (unhide HI).2 _).mono ?_
      rintro e w3 ⟨rfl, m, rfl⟩
      rw [hx, h2]
      clear h1 h2 hx
      go_wp2
      go_ret
      exact ⟨by simp, below_drewN (((unhide K2).alloc (unhide K2).size _).alloc (by have := (unhide K2).size; simp; omega) _) m⟩
  · rw [hk]
    clear hk n0 n1
    by_cases h0 : b = 0
    · subst h0
      refine (op3_c a a 0 0 (unhide HI).1 (unhide HI).1 (unhide HI).2 (unhide HI).2 _).mono ?_
      rintro e w2 ⟨rfl, hb2⟩
      rw [quo_zero]
      have K2 := hide ((unhide K1).trans (hb2.mono (unhide K1).size))
      clear hb2 K1
      go_wp2_with fail
      refine (num3_c _ _ (unhide HI).1 (unhide HI).2 _).mono ?_
      rintro e w3 ⟨rfl, m, rfl⟩
      rw [show quN a 0 = 0 from if_pos rfl, show quO a 0 = 0 from if_pos rfl]
      go_wp2
      go_ret
      exact ⟨by simp, below_drewN (((unhide K2).alloc (unhide K2).size _).alloc (by have := (unhide K2).size; simp; omega) _) m⟩
    · rcases clO_cases (a.tdiv b) with ⟨hx, h1, h2⟩ | ⟨hx, h1, h2⟩ | ⟨hx, h1, h2⟩
      · refine (op3_c a a b b (unhide HI).1 (unhide HI).1 (unhide HI).2 (unhide HI).2 _).mono ?_
        rintro e w2 ⟨rfl, hb2⟩
        rw [quo_one a b h0, span_out _ (by unfold In; omega)]
        have K2 := hide ((unhide K1).trans (hb2.mono (unhide K1).size))
        clear hb2 K1
        go_wp2_with fail
        refine (num3_c _ _ (unhide HI).1 (unhide HI).2 _).mono ?_
        rintro e w3 ⟨rfl, m, rfl⟩
        rw [show quN a b = clN (a.tdiv b) from if_neg h0, show quO a b = clO (a.tdiv b) from if_neg h0, hx, h2]
        clear h1 h2 hx
        go_wp2
        go_ret
        exact ⟨by simp, below_drewN (((unhide K2).alloc (unhide K2).size _).alloc (by have := (unhide K2).size; simp; omega) _) m⟩
      · refine (op3_c a a b b (unhide HI).1 (unhide HI).1 (unhide HI).2 (unhide HI).2 _).mono ?_
        rintro e w2 ⟨rfl, hb2⟩
        rw [quo_one a b h0, span_out _ (by unfold In; omega)]
        have K2 := hide ((unhide K1).trans (hb2.mono (unhide K1).size))
        clear hb2 K1
        go_wp2_with fail
        refine (num3_c _ _ (unhide HI).1 (unhide HI).2 _).mono ?_
        rintro e w3 ⟨rfl, m, rfl⟩
        rw [show quN a b = clN (a.tdiv b) from if_neg h0, show quO a b = clO (a.tdiv b) from if_neg h0, hx, h2]
        clear h1 h2 hx
        go_wp2
        go_ret
        exact ⟨by simp, below_drewN (((unhide K2).alloc (unhide K2).size _).alloc (by have := (unhide K2).size; simp; omega) _) m⟩
      · refine (op3_c a a b b (unhide HI).1 (unhide HI).1 (unhide HI).2 (unhide HI).2 _).mono ?_
        rintro e w2 ⟨rfl, hb2⟩
        rw [quo_one a b h0, span_in _ h1]
        have K2 := hide ((unhide K1).trans (hb2.mono (unhide K1).size))
        clear hb2 K1
        go_wp2_with fail
        refine (num3_c _ _ (unhide HI).1 (unhide HI).2 _).mono ?_
        rintro e w3 ⟨rfl, m, rfl⟩
        rw [show quN a b = clN (a.tdiv b) from if_neg h0, show quO a b = clO (a.tdiv b) from if_neg h0, hx, h2]
        clear h1 h2 hx
        go_wp2
        go_ret
        exact ⟨by simp, below_drewN (((unhide K2).alloc (unhide K2).size _).alloc (by have := (unhide K2).size; simp; omega) _) m⟩
  · rw [hk]
    clear hk n0 n1
    by_cases h0 : b = 0
    · subst h0
      refine (op4_c a a 0 0 (unhide HI).1 (unhide HI).1 (unhide HI).2 (unhide HI).2 _).mono ?_
      rintro e w2 ⟨rfl, hb2⟩
      rw [rem_zero_one]
      have K2 := hide ((unhide K1).trans (hb2.mono (unhide K1).size))
      clear hb2 K1
      go_wp2_with fail
      refine (num4_c _ _ (unhide HI).1 (unhide HI).2 _).mono ?_
      rintro e w3 ⟨rfl, m, rfl⟩
      go_wp2
      go_ret
      exact ⟨by simp, below_drewN (((unhide K2).alloc (unhide K2).size _).alloc (by have := (unhide K2).size; simp; omega) _) m⟩
    · refine (op4_c a a b b (unhide HI).1 (unhide HI).1 (unhide HI).2 (unhide HI).2 _).mono ?_
      rintro e w2 ⟨rfl, hb2⟩
      rw [rem_one a b h0]
      have K2 := hide ((unhide K1).trans (hb2.mono (unhide K1).size))
      clear hb2 K1
      go_wp2_with fail
      refine (num4_c _ _ (unhide HI).1 (unhide HI).2 _).mono ?_
      rintro e w3 ⟨rfl, m, rfl⟩
      go_wp2
      go_ret
      exact ⟨by simp, below_drewN (((unhide K2).alloc (unhide K2).size _).alloc (by have := (unhide K2).size; simp; omega) _) m⟩

/-! The row's step. -/
set_option maxRecDepth 100000 in
theorem lifted (os : Os) (started : os.Started) (H : Type) (enc : TypeId × Value → H) :
    ReturnsInHanded {} Try.checked os 5 .any (Rows.fnIvOneSpec.pre6 enc Try.prog Try.f5 Rows.fnIvOneRow.domain false) (Rows.fnIvOneSpec.post enc Try.prog Try.f5 false true false false) := by
  refine returnsInHanded_of_change (C := Try.checked) own started (by kernel_rfl) Try.func5
    (ChangeSpec.witness6 (enc := enc) (C := Try.checked) false ⟨#[], #[.slice none 0 0], []⟩ 8 (by kernel_rfl) (by kernel_rfl) (by kernel_rfl) (by kernel_rfl)) ?_
  intro W base args ds gs before hval0 hW hcnd _
  have hval : ∀ (j : Nat) t v, Try.f5.params[j]? = some t → args[j]? = some v → Value.okWide Try.prog W .any base t v := hval0
  have hW' := hW
  obtain ⟨p, q, hA0, hV, rfl, hfz, hnd⟩ := hW
  have hA : DataW.TrodAll enc Try.prog W 0 (fun _ => true) true Try.f5.params.toList args.toList ds p := hA0
  rw [Try.params5] at hA hval
  obtain ⟨v0, vs0, d0, ds0, p0, q0, hargs, rfl, rfl, h0, r0⟩ := trodAll_cons hA
  obtain ⟨rfl, rfl, rfl⟩ := trodAll_nil r0
  obtain rfl : args = #[v0] := by cases args; simp_all
  obtain ⟨rfl, rfl⟩ := trodVars_none hV
  obtain ⟨a0, len0, cap0, rfl⟩ := okWide_slice Try.underlying22 (hval 0 22 v0 rfl rfl)
  have k0 := h0
  have lt0 : ∀ x ∈ p0, x.block < W.heap.size := by obtain ⟨m, hm⟩ := k0; exact DataW.trod_lt m _ _ _ hm
  obtain ⟨z0, w0⟩ : ∃ zs, IsRow .u8 W a0 len0 cap0 zs := by
    obtain ⟨fuel, hf⟩ := h0
    rcases open_ints Try.underlying22 Try.underlying5 (by kernel_rfl) hf with ⟨hcs, _⟩ | ⟨x, l, c, zs, hcs, _, hl, hm, hz, _, hcell, hwz⟩
    · simp [Value.cells] at hcs
      obtain ⟨rfl, rfl, rfl⟩ := hcs
      exact ⟨[], .inl ⟨rfl, rfl, rfl, rfl⟩⟩
    · simp [Value.cells] at hcs
      obtain ⟨rfl, rfl, rfl⟩ := hcs
      exact ⟨zs, .inr ⟨_, rfl, hl, hm, by simpa using hz, hcell, hwz⟩⟩
  clear hA0 hval0
  refine (walk a0 len0 cap0 z0 W w0).mono fun e W' ⟨he, bel⟩ => ?_
  subst he
  exact ⟨_, rfl, _, _, _, [], _, [], hW', trodAll_mk1 (shut_bool Try.underlying4 _), (trodAll_cons_mk (Below.trod laidOut (by kernel_rfl) (of_decide_eq_true (by kernel_rfl)) k0 bel lt0) trodAll_mk0), rfl, bel.frame _, fun h => by cases h⟩

theorem over : Rows.fnIvOneRow.holds Try.pinned (OpenSpec.ofChange Rows.fnIvOneSpec) :=
  OpenClaim.holds_of_wide 5 Try.f5 rfl rfl rfl rfl rfl rfl rfl ⟨rfl, rfl, rfl, rfl, rfl⟩ rfl rfl rfl rfl rfl (by kernel_rfl) Try.func5 (by kernel_rfl)
    (of_decide_eq_true (by kernel_rfl)) (by unfold Func.isWrapper; first | (rw [if_pos (by decide +kernel)]; kernel_rfl) | (rw [if_neg (by decide +kernel)]; exact ⟨rfl, rfl⟩))
    (fun os started H enc _ => lifted os started H enc)
end Go.Proofs.Ytfnedaidljppnaa.fnIvOne

namespace Go.Proofs.Ytfnedaidljppnaa
/-- The given statement. -/
theorem fnIvOne_holds : Rows.FnIvOneSaid := fnIvOne.over
#print axioms fnIvOne_holds
end Go.Proofs.Ytfnedaidljppnaa
