/- Proved here: whatever the arguments, a call of laws.FnExactIvRefine returns true and leaves its arguments as they were. No condition beside the row's own. -/
import Derived.Test.YtlgjbfkhajphdaaRows
import Derived.WalkKit
import Derived.ProofKit
import Derived.OpenShut
import Derived.ShutString
import Derived.ChangeOld
import Derived.Below
import Derived.Lib.SmallJoins
import Derived.Test.YtlgjbfkhajphdaaIvD
import Derived.Test.YtlgjbfkhajphdaaRefF
namespace Go.Proofs.Ytlgjbfkhajphdaa.fnExactIvRefine
open Go.Iv
open Go.ChangeShapes Go.WideShapes Go.ChangeAt Go.RowKit
open Go.ChangeMaps (open_string shut_string)
set_option linter.unusedVariables false
set_option linter.unusedSimpArgs false

theorem own : ownKnob Try.prog.godebug = none := by kernel_rfl
theorem laidOut : laidOutB Try.prog = true := by kernel_rfl

/-! The walk of the law. -/
set_option maxRecDepth 100000 in
set_option maxHeartbeats 2000000 in
theorem walk (a0 : Int) (l1 g1 : Int) (l2 g2 : Int) (w : World) (w0 : (Lit.int .i64 a0).wf = true) (i1 : In l1) (j1 : In g1) (i2 : In l2) (j2 : In g2) :
    Calls Try.prog 3 #[.int .i64 a0, .agg #[.int .i64 l1, .int .i64 g1], .agg #[.int .i64 l2, .int .i64 g2]] w fun e w' => e = .returned (.bool true) ∧ Below w.heap.size w w' := by
  --HEAVY
  have hs0 : S2 w w.heap.size w.heap.size l1 g1 l2 g2 ((w.alloc (Obj.cells #[.int .i64 l1, .int .i64 g1] 23)).alloc (Obj.cells #[.int .i64 l2, .int .i64 g2] 23)) := by
    refine ⟨by simp, by simp, by simp, by simp, ((Below.refl _ _).alloc (Nat.le_refl _) _).alloc (by simp) _, by simp; omega, by simp⟩
  go_enter Try.func3, Try.ntmps3
  go_wp2_with fail
  generalize (w.alloc (Obj.cells #[.int .i64 l1, .int .i64 g1] 23)).alloc (Obj.cells #[.int .i64 l2, .int .i64 g2] 23) = W at hs0 ⊢
  have hz0 := hs0.2.2.2.2.2.2
  go_cut [7, 8] (fun p q wc => q = .bool (refB a0 l1 g1 l2 g2) ∧ Res2 w w.heap.size w.heap.size l1 g1 l2 g2 p (refL a0 l1 g1 l2 g2) (refH a0 l1 g1 l2 g2) wc)
  case first =>
    go_region_held3 (S2 w w.heap.size w.heap.size l1 g1 l2 g2)
      (first | exact S2.drew (by assumption) | exact S2.call hb (by assumption) | exact S2.alloc (by assumption) _ | exact S2.alloc (S2.alloc (S2.alloc (by assumption) _) _) _ | exact S2.set (S2.set (by assumption) (by omega) (by omega) _) (by omega) (by omega) _)
      (first
        | (go_at_call 5; refine (toInterval_c _ _ _).mono ?_; rintro e w1 ⟨rfl, o1, o2, o3, rfl⟩)
        | (go_at_call 4; refine (sIvRefine_c _ _ _ _ _ i1 j1 i2 j2 _).mono ?_; rintro e w1 ⟨rfl, hb⟩; have hk := S2.call (x0 := l1) (y0 := g1) (x1 := l2) (y1 := g2) (w0 := w) (M := w.heap.size) (B := w.heap.size) hb (by assumption); obtain ⟨hc, hf⟩ := bcell hb))
    all_goals (go_wp2_with fail; go_meet)
    all_goals first
      | exact ⟨rfl, Res2.new hk _ _ _⟩
      | exact ⟨rfl, Res2.set (v0 := .int .i64 0) (v1 := .int .i64 0) hk (by omega) (by omega) ((hc _ _ (by simp <;> omega)).trans (by simp [go_sem])) ((hc _ _ (by simp <;> omega)).trans (by simp [go_sem])) _ _⟩
  case rest =>
  clear hs0 hz0
  obtain ⟨rfl, b, rfl, cb, hb2, hbs, hs1⟩ := hcut
  have K1 : Hid (Below w.heap.size w wc) := hs1.2.2.2.2.1
  have hz1 := hs1.2.2.2.2.2.2
  have hs2 : S2 wc wc.heap.size w.heap.size l1 g1 l2 g2 wc := ⟨hs1.1, hs1.2.1, hs1.2.2.1, hs1.2.2.2.1, Below.refl _ _, Nat.le_refl _, hz1⟩
  clear hs1
  have CB := hide cb
  clear cb
  obtain ⟨wd, rfl⟩ : ∃ wd : World, wd = wc := ⟨_, rfl⟩
  go_wp2_with fail
  go_cut [9, 10] (fun p q wc => q = .bool (refB a0 l1 g1 l2 g2) ∧ Res2 wd wd.heap.size w.heap.size l1 g1 l2 g2 p (refL a0 l1 g1 l2 g2) (refH a0 l1 g1 l2 g2) wc)
  case first =>
    go_region_held3 (S2 wd wd.heap.size w.heap.size l1 g1 l2 g2)
      (first | exact S2.drew (by assumption) | exact S2.call hb (by assumption) | exact S2.alloc (by assumption) _ | exact S2.alloc (S2.alloc (S2.alloc (by assumption) _) _) _ | exact S2.set (S2.set (by assumption) (by omega) (by omega) _) (by omega) (by omega) _)
      (first
        | (go_at_call 5; refine (toInterval_c _ _ _).mono ?_; rintro e w1 ⟨rfl, o1, o2, o3, rfl⟩)
        | (go_at_call 6; refine (IvRefine_c _ _ _ _ _ i1 j1 i2 j2 _).mono ?_; rintro e w1 ⟨rfl, hb⟩; have hk := S2.call (x0 := l1) (y0 := g1) (x1 := l2) (y1 := g2) (w0 := wd) (M := wd.heap.size) (B := w.heap.size) hb (by assumption); obtain ⟨hc, hf⟩ := bcell hb))
    all_goals (go_wp2_with fail; go_meet)
    all_goals first
      | exact ⟨rfl, Res2.new hk _ _ _⟩
      | exact ⟨rfl, Res2.set (v0 := .int .i64 0) (v1 := .int .i64 0) hk (by omega) (by omega) ((hc _ _ (by simp <;> omega)).trans (by simp [go_sem])) ((hc _ _ (by simp <;> omega)).trans (by simp [go_sem])) _ _⟩
  case rest =>
  obtain ⟨rfl, b2, rfl, cd, _, _, hs3⟩ := hcut
  have kb := hs3.2.2.2.2.1
  obtain ⟨d0, d1⟩ := cd
  have e0 : wc.cell? ⟨b, 0, none⟩ = some (.int .i64 (refL a0 l1 g1 l2 g2)) := (kb.cell (by exact hbs)).trans (unhide CB).1
  have e1 : wc.cell? ⟨b, 1, none⟩ = some (.int .i64 (refH a0 l1 g1 l2 g2)) := (kb.cell (by exact hbs)).trans (unhide CB).2
  have K2 : Hid (Below w.heap.size w wc) := K1.out.trans (kb.mono K1.out.size)
  clear kb hs3 CB
  go_wp2_with fail
  refine (eqInterval_c _ _ _).mono ?_
  rintro e w4 ⟨rfl, hb4⟩
  have K4 : Hid (Below w.heap.size w w4) := K2.out.trans (hb4.mono K2.out.size)
  clear hb4
  go_wp2
  go_ret
  exact ⟨rfl, K4.out⟩

/-! The row's step. -/
set_option maxRecDepth 100000 in
theorem lifted (os : Os) (started : os.Started) (H : Type) (enc : TypeId × Value → H) :
    ReturnsInHanded {} Try.checked os 3 .any (Rows.fnExactIvRefineSpec.pre6 enc Try.prog Try.f3 Rows.fnExactIvRefineRow.domain false) (Rows.fnExactIvRefineSpec.post enc Try.prog Try.f3 false true false false) := by
  refine returnsInHanded_of_change (C := Try.checked) own started (by kernel_rfl) Try.func3
    (ChangeSpec.witness6 (enc := enc) (C := Try.checked) false ⟨#[], #[.int .i64 0, .agg #[.int .i64 0, .int .i64 0], .agg #[.int .i64 0, .int .i64 0]], []⟩ 8 (by kernel_rfl) (by kernel_rfl) (by kernel_rfl) (by kernel_rfl)) ?_
  intro W base args ds gs before hval0 hW hcnd _
  have hval : ∀ (j : Nat) t v, Try.f3.params[j]? = some t → args[j]? = some v → Value.okWide Try.prog W .any base t v := hval0
  have hW' := hW
  obtain ⟨p, q, hA0, hV, rfl, hfz, hnd⟩ := hW
  have hA : DataW.TrodAll enc Try.prog W 0 (fun _ => true) true Try.f3.params.toList args.toList ds p := hA0
  rw [Try.params3] at hA hval
  obtain ⟨v0, vs0, d0, ds0, p0, q0, hargs, rfl, rfl, h0, r0⟩ := trodAll_cons hA
  obtain ⟨v1, vs1, d1, ds1, p1, q1, rfl, rfl, rfl, h1, r1⟩ := trodAll_cons r0
  obtain ⟨v2, vs2, d2, ds2, p2, q2, rfl, rfl, rfl, h2, r2⟩ := trodAll_cons r1
  obtain ⟨rfl, rfl, rfl⟩ := trodAll_nil r2
  obtain rfl : args = #[v0, v1, v2] := by cases args; simp_all
  obtain ⟨rfl, rfl⟩ := trodVars_none hV
  have k0 := h0
  have lt0 : ∀ x ∈ p0, x.block < W.heap.size := by obtain ⟨m, hm⟩ := k0; exact DataW.trod_lt m _ _ _ hm
  obtain ⟨a0, rfl, w0⟩ : ∃ a, v0 = .int .i64 a ∧ (Lit.int .i64 a).wf = true := by
    obtain ⟨a, e1, _, _, wa⟩ := open_int Try.underlying2 (hval 0 2 v0 rfl rfl) h0
    exact ⟨a, e1, wa⟩
  have k1 := h1
  have lt1 : ∀ x ∈ p1, x.block < W.heap.size := by obtain ⟨m, hm⟩ := k1; exact DataW.trod_lt m _ _ _ hm
  obtain ⟨l1, g1, rfl, i1, j1⟩ : ∃ l g, v1 = .agg #[.int .i64 l, .int .i64 g] ∧ In l ∧ In g := by
    obtain ⟨c0, c1, y0, y1, m, e1, _, _, hy0, hy1⟩ := Joins.open_agg2 Try.underlying23 (by kernel_rfl) (by kernel_rfl) (hval 1 23 v1 rfl rfl) h1
    obtain ⟨a, q0, _, wa⟩ := DataW.trod_int Try.underlying2 hy0
    obtain ⟨b, q1, _, wb⟩ := DataW.trod_int Try.underlying2 hy1
    simp at q0 q1
    subst q0 q1
    exact ⟨a, b, e1, bounds_i64 wa, bounds_i64 wb⟩
  have k2 := h2
  have lt2 : ∀ x ∈ p2, x.block < W.heap.size := by obtain ⟨m, hm⟩ := k2; exact DataW.trod_lt m _ _ _ hm
  obtain ⟨l2, g2, rfl, i2, j2⟩ : ∃ l g, v2 = .agg #[.int .i64 l, .int .i64 g] ∧ In l ∧ In g := by
    obtain ⟨c0, c1, y0, y1, m, e1, _, _, hy0, hy1⟩ := Joins.open_agg2 Try.underlying23 (by kernel_rfl) (by kernel_rfl) (hval 2 23 v2 rfl rfl) h2
    obtain ⟨a, q0, _, wa⟩ := DataW.trod_int Try.underlying2 hy0
    obtain ⟨b, q1, _, wb⟩ := DataW.trod_int Try.underlying2 hy1
    simp at q0 q1
    subst q0 q1
    exact ⟨a, b, e1, bounds_i64 wa, bounds_i64 wb⟩
  clear hA0 hval0
  refine (walk a0 l1 g1 l2 g2 W w0 i1 j1 i2 j2).mono fun e W' ⟨he, bel⟩ => ?_
  subst he
  exact ⟨_, rfl, _, _, _, [], _, [], hW', trodAll_mk1 (shut_bool Try.underlying4 _), (trodAll_cons_mk (Below.trod laidOut (by kernel_rfl) (of_decide_eq_true (by kernel_rfl)) k0 bel lt0) (trodAll_cons_mk (Below.trod laidOut (by kernel_rfl) (of_decide_eq_true (by kernel_rfl)) k1 bel lt1) (trodAll_cons_mk (Below.trod laidOut (by kernel_rfl) (of_decide_eq_true (by kernel_rfl)) k2 bel lt2) trodAll_mk0))), rfl, bel.frame _, fun h => by cases h⟩

theorem over : Rows.fnExactIvRefineRow.holds Try.pinned (OpenSpec.ofChange Rows.fnExactIvRefineSpec) :=
  OpenClaim.holds_of_wide 3 Try.f3 rfl rfl rfl rfl rfl rfl rfl ⟨rfl, rfl, rfl, rfl, rfl⟩ rfl rfl rfl rfl rfl (by kernel_rfl) Try.func3 (by kernel_rfl)
    (of_decide_eq_true (by kernel_rfl)) (by unfold Func.isWrapper; first | (rw [if_pos (by decide +kernel)]; kernel_rfl) | (rw [if_neg (by decide +kernel)]; exact ⟨rfl, rfl⟩))
    (fun os started H enc _ => lifted os started H enc)
end Go.Proofs.Ytlgjbfkhajphdaa.fnExactIvRefine

namespace Go.Proofs.Ytlgjbfkhajphdaa
/-- The given statement. -/
theorem fnExactIvRefine_holds : Rows.FnExactIvRefineSaid := fnExactIvRefine.over
#print axioms fnExactIvRefine_holds
end Go.Proofs.Ytlgjbfkhajphdaa
