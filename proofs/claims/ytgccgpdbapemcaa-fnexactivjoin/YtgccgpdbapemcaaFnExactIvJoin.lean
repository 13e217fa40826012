/- Proved here: whatever the arguments, a call of laws.FnExactIvJoin returns true and leaves its arguments as they were. No condition beside the row's own. -/
import Derived.Test.YtgccgpdbapemcaaRows
import Derived.WalkKit
import Derived.ProofKit
import Derived.OpenShut
import Derived.ShutString
import Derived.ChangeOld
import Derived.Below
import Derived.Lib.SmallJoins
import Derived.Test.YtgccgpdbapemcaaIvD
namespace Go.Proofs.Ytgccgpdbapemcaa.fnExactIvJoin
open Go.Iv
open Go.ChangeShapes Go.WideShapes Go.ChangeAt Go.RowKit
open Go.ChangeMaps (open_string shut_string)
set_option linter.unusedVariables false
set_option linter.unusedSimpArgs false

theorem own : ownKnob Try.prog.godebug = none := by kernel_rfl
theorem laidOut : laidOutB Try.prog = true := by kernel_rfl

/-! The walk of the law. -/
set_option maxHeartbeats 1000000 in
theorem walk (l0 g0 : Int) (l1 g1 : Int) (w : World) (i0 : In l0) (j0 : In g0) (i1 : In l1) (j1 : In g1) :
    Calls Try.prog 9 #[.agg #[.int .i64 l0, .int .i64 g0], .agg #[.int .i64 l1, .int .i64 g1]] w fun e w' => e = .returned (.bool true) ∧ Below w.heap.size w w' := by
  --HEAVY
  clear i0 j0 i1 j1
  have hs0 : S2 w w.heap.size w.heap.size l0 g0 l1 g1 ((w.alloc (Obj.cells #[.int .i64 l0, .int .i64 g0] 41)).alloc (Obj.cells #[.int .i64 l1, .int .i64 g1] 41)) := by
    refine ⟨by simp, by simp, by simp, by simp, ((Below.refl _ _).alloc (Nat.le_refl _) _).alloc (by simp) _, by simp; omega, by simp⟩
  go_enter Try.func9, Try.ntmps9
  go_wp2_with fail
  generalize (w.alloc (Obj.cells #[.int .i64 l0, .int .i64 g0] 41)).alloc (Obj.cells #[.int .i64 l1, .int .i64 g1] 41) = W at hs0 ⊢
  have hz0 := hs0.2.2.2.2.2.2
  go_cut [5] (fun p wc => Res2 w w.heap.size w.heap.size l0 g0 l1 g1 p (joinL l0 g0 l1 g1) (joinH l0 g0 l1 g1) wc)
  case first =>
    go_region_held3 (S2 w w.heap.size w.heap.size l0 g0 l1 g1)
      (first | exact S2.drew (by assumption) | exact S2.call hb (by assumption) | exact S2.alloc (by assumption) _ | exact S2.alloc (S2.alloc (S2.alloc (by assumption) _) _) _ | exact S2.set (S2.set (by assumption) (by omega) (by omega) _) (by omega) (by omega) _)
      (first
        | (go_at_call 31; refine (toInterval_c _ _ _).mono ?_; rintro e w1 ⟨rfl, o1, o2, o3, rfl⟩)
        | (go_at_call 16; refine (sIvJoin_c _ _ _ _ _).mono ?_; rintro e w1 ⟨rfl, hb⟩; have hk := S2.call (x0 := l0) (y0 := g0) (x1 := l1) (y1 := g1) (w0 := w) (M := w.heap.size) (B := w.heap.size) hb (by assumption); obtain ⟨hc, hf⟩ := bcell hb))
    all_goals (go_wp2_with fail; go_meet)
    all_goals first
      | exact Res2.new hk _ _ _
      | exact Res2.set (v0 := .int .i64 0) (v1 := .int .i64 0) hk (by omega) (by omega) ((hc _ _ (by simp <;> omega)).trans (by simp [go_sem])) ((hc _ _ (by simp <;> omega)).trans (by simp [go_sem])) _ _
  case rest =>
  clear hs0 hz0
  obtain ⟨b, rfl, cb, hb2, hbs, hs1⟩ := hcut
  have K1 : Hid (Below w.heap.size w wc) := hs1.2.2.2.2.1
  have hz1 := hs1.2.2.2.2.2.2
  have hs2 : S2 wc wc.heap.size w.heap.size l0 g0 l1 g1 wc := ⟨hs1.1, hs1.2.1, hs1.2.2.1, hs1.2.2.2.1, Below.refl _ _, Nat.le_refl _, hz1⟩
  clear hs1
  have CB := hide cb
  clear cb
  obtain ⟨wd, rfl⟩ : ∃ wd : World, wd = wc := ⟨_, rfl⟩
  go_wp2_with fail
  go_cut [6] (fun p wc => Res2 wd wd.heap.size w.heap.size l0 g0 l1 g1 p (joinL l0 g0 l1 g1) (joinH l0 g0 l1 g1) wc)
  case first =>
    go_region_held3 (S2 wd wd.heap.size w.heap.size l0 g0 l1 g1)
      (first | exact S2.drew (by assumption) | exact S2.call hb (by assumption) | exact S2.alloc (by assumption) _ | exact S2.alloc (S2.alloc (S2.alloc (by assumption) _) _) _ | exact S2.set (S2.set (by assumption) (by omega) (by omega) _) (by omega) (by omega) _)
      (first
        | (go_at_call 31; refine (toInterval_c _ _ _).mono ?_; rintro e w1 ⟨rfl, o1, o2, o3, rfl⟩)
        | (go_at_call 15; refine (IvJoin_c _ _ _ _ _).mono ?_; rintro e w1 ⟨rfl, hb⟩; have hk := S2.call (x0 := l0) (y0 := g0) (x1 := l1) (y1 := g1) (w0 := wd) (M := wd.heap.size) (B := w.heap.size) hb (by assumption); obtain ⟨hc, hf⟩ := bcell hb))
    all_goals (go_wp2_with fail; go_meet)
    all_goals first
      | exact Res2.new hk _ _ _
      | exact Res2.set (v0 := .int .i64 0) (v1 := .int .i64 0) hk (by omega) (by omega) ((hc _ _ (by simp <;> omega)).trans (by simp [go_sem])) ((hc _ _ (by simp <;> omega)).trans (by simp [go_sem])) _ _
  case rest =>
  obtain ⟨b2, rfl, cd, _, _, hs3⟩ := hcut
  have kb := hs3.2.2.2.2.1
  obtain ⟨d0, d1⟩ := cd
  have e0 : wc.cell? ⟨b, 0, none⟩ = some (.int .i64 (joinL l0 g0 l1 g1)) := (kb.cell (by exact hbs)).trans (unhide CB).1
  have e1 : wc.cell? ⟨b, 1, none⟩ = some (.int .i64 (joinH l0 g0 l1 g1)) := (kb.cell (by exact hbs)).trans (unhide CB).2
  have K2 : Hid (Below w.heap.size w wc) := K1.out.trans (kb.mono K1.out.size)
  clear kb hs3 CB
  go_wp2_with fail
  refine (eqInterval_c _ _ _).mono ?_
  rintro e w4 ⟨rfl, hb4⟩
  have K4 : Hid (Below w.heap.size w w4) := K2.out.trans (hb4.mono K2.out.size)
  clear hb4
  go_wp2
  go_ret
  exact ⟨rfl, K4.out⟩

/-! The row's step. -/
set_option maxRecDepth 100000 in
theorem lifted (os : Os) (started : os.Started) (H : Type) (enc : TypeId × Value → H) :
    ReturnsInHanded {} Try.checked os 9 .any (Rows.fnExactIvJoinSpec.pre6 enc Try.prog Try.f9 Rows.fnExactIvJoinRow.domain false) (Rows.fnExactIvJoinSpec.post enc Try.prog Try.f9 false true false false) := by
  refine returnsInHanded_of_change (C := Try.checked) own started (by kernel_rfl) Try.func9
    (ChangeSpec.witness6 (enc := enc) (C := Try.checked) false ⟨#[], #[.agg #[.int .i64 0, .int .i64 0], .agg #[.int .i64 0, .int .i64 0]], []⟩ 8 (by kernel_rfl) (by kernel_rfl) (by kernel_rfl) (by kernel_rfl)) ?_
  intro W base args ds gs before hval0 hW hcnd _
  have hval : ∀ (j : Nat) t v, Try.f9.params[j]? = some t → args[j]? = some v → Value.okWide Try.prog W .any base t v := hval0
  have hW' := hW
  obtain ⟨p, q, hA0, hV, rfl, hfz, hnd⟩ := hW
  have hA : DataW.TrodAll enc Try.prog W 0 (fun _ => true) true Try.f9.params.toList args.toList ds p := hA0
  rw [Try.params9] at hA hval
  obtain ⟨v0, vs0, d0, ds0, p0, q0, hargs, rfl, rfl, h0, r0⟩ := trodAll_cons hA
  obtain ⟨v1, vs1, d1, ds1, p1, q1, rfl, rfl, rfl, h1, r1⟩ := trodAll_cons r0
  obtain ⟨rfl, rfl, rfl⟩ := trodAll_nil r1
  obtain rfl : args = #[v0, v1] := by cases args; simp_all
  obtain ⟨rfl, rfl⟩ := trodVars_none hV
  have k0 := h0
  have lt0 : ∀ x ∈ p0, x.block < W.heap.size := by obtain ⟨m, hm⟩ := k0; exact DataW.trod_lt m _ _ _ hm
  obtain ⟨l0, g0, rfl, i0, j0⟩ : ∃ l g, v0 = .agg #[.int .i64 l, .int .i64 g] ∧ In l ∧ In g := by
    obtain ⟨c0, c1, y0, y1, m, e1, _, _, hy0, hy1⟩ := Joins.open_agg2 Try.underlying41 (by kernel_rfl) (by kernel_rfl) (hval 0 41 v0 rfl rfl) h0
    obtain ⟨a, q0, _, wa⟩ := DataW.trod_int Try.underlying2 hy0
    obtain ⟨b, q1, _, wb⟩ := DataW.trod_int Try.underlying2 hy1
    simp at q0 q1
    subst q0 q1
    exact ⟨a, b, e1, bounds_i64 wa, bounds_i64 wb⟩
  have k1 := h1
  have lt1 : ∀ x ∈ p1, x.block < W.heap.size := by obtain ⟨m, hm⟩ := k1; exact DataW.trod_lt m _ _ _ hm
  obtain ⟨l1, g1, rfl, i1, j1⟩ : ∃ l g, v1 = .agg #[.int .i64 l, .int .i64 g] ∧ In l ∧ In g := by
    obtain ⟨c0, c1, y0, y1, m, e1, _, _, hy0, hy1⟩ := Joins.open_agg2 Try.underlying41 (by kernel_rfl) (by kernel_rfl) (hval 1 41 v1 rfl rfl) h1
    obtain ⟨a, q0, _, wa⟩ := DataW.trod_int Try.underlying2 hy0
    obtain ⟨b, q1, _, wb⟩ := DataW.trod_int Try.underlying2 hy1
    simp at q0 q1
    subst q0 q1
    exact ⟨a, b, e1, bounds_i64 wa, bounds_i64 wb⟩
  clear hA0 hval0
  refine (walk l0 g0 l1 g1 W i0 j0 i1 j1).mono fun e W' ⟨he, bel⟩ => ?_
  subst he
  exact ⟨_, rfl, _, _, _, [], _, [], hW', trodAll_mk1 (shut_bool Try.underlying4 _), (trodAll_cons_mk (Below.trod laidOut (by kernel_rfl) (of_decide_eq_true (by kernel_rfl)) k0 bel lt0) (trodAll_cons_mk (Below.trod laidOut (by kernel_rfl) (of_decide_eq_true (by kernel_rfl)) k1 bel lt1) trodAll_mk0)), rfl, bel.frame _, fun h => by cases h⟩

theorem over : Rows.fnExactIvJoinRow.holds Try.pinned (OpenSpec.ofChange Rows.fnExactIvJoinSpec) :=
  OpenClaim.holds_of_wide 9 Try.f9 rfl rfl rfl rfl rfl rfl rfl ⟨rfl, rfl, rfl, rfl, rfl⟩ rfl rfl rfl rfl rfl (by kernel_rfl) Try.func9 (by kernel_rfl)
    (of_decide_eq_true (by kernel_rfl)) (by unfold Func.isWrapper; first | (rw [if_pos (by decide +kernel)]; kernel_rfl) | (rw [if_neg (by decide +kernel)]; exact ⟨rfl, rfl⟩))
    (fun os started H enc _ => lifted os started H enc)
end Go.Proofs.Ytgccgpdbapemcaa.fnExactIvJoin

namespace Go.Proofs.Ytgccgpdbapemcaa
/-- The given statement. -/
theorem fnExactIvJoin_holds : Rows.FnExactIvJoinSaid := fnExactIvJoin.over
#print axioms fnExactIvJoin_holds
end Go.Proofs.Ytgccgpdbapemcaa
