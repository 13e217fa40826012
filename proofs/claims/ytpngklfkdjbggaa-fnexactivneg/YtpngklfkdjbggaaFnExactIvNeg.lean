/- Proved here: whatever the arguments, a call of laws.FnExactIvNeg returns true and leaves its arguments as they were. No condition beside the row's own. -/
import Derived.Test.YtpngklfkdjbggaaRows
import Derived.WalkKit
import Derived.ProofKit
import Derived.OpenShut
import Derived.ShutString
import Derived.ChangeOld
import Derived.Below
import Derived.Lib.SmallJoins
import Derived.Test.YtpngklfkdjbggaaReadC
import Derived.Test.YtpngklfkdjbggaaIvC
import Derived.Test.YtpngklfkdjbggaaIvD
import Derived.Test.YtpngklfkdjbggaaSpE
import Derived.Test.YtpngklfkdjbggaaValC
namespace Go.Proofs.Ytpngklfkdjbggaa.fnExactIvNeg
open Go.Iv
open Go.ChangeShapes Go.WideShapes Go.ChangeAt Go.RowKit
open Go.ChangeMaps (open_string shut_string)
set_option linter.unusedVariables false
set_option linter.unusedSimpArgs false

theorem own : ownKnob Try.prog.godebug = none := by kernel_rfl
theorem laidOut : laidOutB Try.prog = true := by kernel_rfl

/-! The walk of the law. -/
set_option maxRecDepth 100000 in
set_option maxHeartbeats 2000000 in
theorem walk (l0 g0 : Int) (w : World) (i0 : In l0) (j0 : In g0) :
    Calls Try.prog 8 #[.agg #[.int .i64 l0, .int .i64 g0]] w fun e w' => e = .returned (.bool true) ∧ Below w.heap.size w w' := by
  --HEAVY
  obtain ⟨V, hV⟩ : ∃ V, V = corV (fun x y => x - y) 0 0 l0 g0 := ⟨_, rfl⟩
  have HV := hide hV
  have HI := hide (And.intro i0 j0)
  clear hV i0 j0
  go_enter Try.func8, Try.ntmps8
  go_wp2_with fail
  refine (toInterval_c _ _ _).mono ?_
  rintro e w1 ⟨rfl, o1, o2, o3, rfl⟩
  go_wp2_with fail
  refine (sIvNeg_c _ _ (unhide HI).1 (unhide HI).2 _).mono ?_
  rintro e w2 ⟨rfl, hb2⟩
  rw [← unhide HV]
  obtain ⟨hc2, hf2⟩ := bcell hb2
  have a0 : w2.cell? ⟨w.heap.size, 0, none⟩ = some (.int .i64 l0) := (hc2 _ _ (by simp; omega)).trans (by rw [World.cell?_alloc_lt _ _ _ (by show w.heap.size < _; simp; omega), World.cell?_alloc_lt _ _ _ (by show w.heap.size < _; simp; omega), World.cell?_alloc_lt _ _ _ (by show w.heap.size < _; simp)]; simp)
  have a1 : w2.cell? ⟨w.heap.size, 1, none⟩ = some (.int .i64 g0) := (hc2 _ _ (by simp; omega)).trans (by rw [World.cell?_alloc_lt _ _ _ (by show w.heap.size < _; simp; omega), World.cell?_alloc_lt _ _ _ (by show w.heap.size < _; simp; omega), World.cell?_alloc_lt _ _ _ (by show w.heap.size < _; simp)]; simp)
  have z2 : w.heap.size < w2.heap.size := by have := hb2.size; simp at this; omega
  have K2 := hide ((((((Below.refl _ w).alloc (Nat.le_refl _) _).alloc (by simp) _).alloc (by simp; omega) _).alloc (by simp; omega) _).trans (hb2.mono (by simp; omega)))
  clear hb2 hc2 hf2
  go_wp2_with fail
  refine (toInterval_c _ _ _).mono ?_
  rintro e w3 ⟨rfl, o4, o5, o6, rfl⟩
  go_wp2_with fail
  refine (IvNeg_c _ _ (unhide HI).1 (unhide HI).2 _).mono ?_
  rintro e w4 ⟨rfl, hb4⟩
  rw [← unhide HV]
  obtain ⟨hc4, hf4⟩ := bcell hb4
  have d0 : w4.cell? ⟨w2.heap.size, 0, none⟩ = some (.int .i64 V.lo) := (hc4 _ _ (by simp; omega)).trans (by rw [World.cell?_alloc_lt _ _ _ (by show w2.heap.size < _; simp; omega), World.cell?_alloc_lt _ _ _ (by show w2.heap.size < _; simp; omega), World.cell?_alloc_lt _ _ _ (by show w2.heap.size < _; simp)]; simp)
  have d1 : w4.cell? ⟨w2.heap.size, 1, none⟩ = some (.int .i64 V.hi) := (hc4 _ _ (by simp; omega)).trans (by rw [World.cell?_alloc_lt _ _ _ (by show w2.heap.size < _; simp; omega), World.cell?_alloc_lt _ _ _ (by show w2.heap.size < _; simp; omega), World.cell?_alloc_lt _ _ _ (by show w2.heap.size < _; simp)]; simp)
  have d2 : w4.cell? ⟨w2.heap.size, 2, none⟩ = some (.bool V.live) := (hc4 _ _ (by simp; omega)).trans (by rw [World.cell?_alloc_lt _ _ _ (by show w2.heap.size < _; simp; omega), World.cell?_alloc_lt _ _ _ (by show w2.heap.size < _; simp; omega), World.cell?_alloc_lt _ _ _ (by show w2.heap.size < _; simp)]; simp)
  have d3 : w4.cell? ⟨w2.heap.size, 3, none⟩ = some (.int .i64 V.al) := (hc4 _ _ (by simp; omega)).trans (by rw [World.cell?_alloc_lt _ _ _ (by show w2.heap.size < _; simp; omega), World.cell?_alloc_lt _ _ _ (by show w2.heap.size < _; simp; omega), World.cell?_alloc_lt _ _ _ (by show w2.heap.size < _; simp)]; simp)
  have z4 : w2.heap.size < w4.heap.size := by have := hb4.size; simp at this; omega
  have K4 := hide (((((unhide K2).alloc (by omega) _).alloc (by simp; omega) _).alloc (by simp; omega) _).alloc (by simp; omega) _ |>.trans (hb4.mono (by simp; omega)))
  clear hb4 hc4 hf4 K2
  go_wp2_with fail
  refine (eqVal_c _ _ _ _ _).mono ?_
  rintro e w5 ⟨rfl, hb5⟩
  have K5 := hide (((unhide K4).alloc (by omega) _).trans (hb5.mono (by simp; omega)))
  clear hb5 K4
  go_wp2
  go_ret
  exact ⟨rfl, unhide K5⟩

/-! The row's step. -/
set_option maxRecDepth 100000 in
theorem lifted (os : Os) (started : os.Started) (H : Type) (enc : TypeId × Value → H) :
    ReturnsInHanded {} Try.checked os 8 .any (Rows.fnExactIvNegSpec.pre6 enc Try.prog Try.f8 Rows.fnExactIvNegRow.domain false) (Rows.fnExactIvNegSpec.post enc Try.prog Try.f8 false true false false) := by
  refine returnsInHanded_of_change (C := Try.checked) own started (by kernel_rfl) Try.func8
    (ChangeSpec.witness6 (enc := enc) (C := Try.checked) false ⟨#[], #[.agg #[.int .i64 0, .int .i64 0]], []⟩ 8 (by kernel_rfl) (by kernel_rfl) (by kernel_rfl) (by kernel_rfl)) ?_
  intro W base args ds gs before hval0 hW hcnd _
  have hval : ∀ (j : Nat) t v, Try.f8.params[j]? = some t → args[j]? = some v → Value.okWide Try.prog W .any base t v := hval0
  have hW' := hW
  obtain ⟨p, q, hA0, hV, rfl, hfz, hnd⟩ := hW
  have hA : DataW.TrodAll enc Try.prog W 0 (fun _ => true) true Try.f8.params.toList args.toList ds p := hA0
  rw [Try.params8] at hA hval
  obtain ⟨v0, vs0, d0, ds0, p0, q0, hargs, rfl, rfl, h0, r0⟩ := trodAll_cons hA
  obtain ⟨rfl, rfl, rfl⟩ := trodAll_nil r0
  obtain rfl : args = #[v0] := by cases args; simp_all
  obtain ⟨rfl, rfl⟩ := trodVars_none hV
  have k0 := h0
  have lt0 : ∀ x ∈ p0, x.block < W.heap.size := by obtain ⟨m, hm⟩ := k0; exact DataW.trod_lt m _ _ _ hm
  obtain ⟨l0, g0, rfl, i0, j0⟩ : ∃ l g, v0 = .agg #[.int .i64 l, .int .i64 g] ∧ In l ∧ In g := by
    obtain ⟨c0, c1, y0, y1, m, e1, _, _, hy0, hy1⟩ := Joins.open_agg2 Try.underlying31 (by kernel_rfl) (by kernel_rfl) (hval 0 31 v0 rfl rfl) h0
    obtain ⟨a, q0, _, wa⟩ := DataW.trod_int Try.underlying2 hy0
    obtain ⟨b, q1, _, wb⟩ := DataW.trod_int Try.underlying2 hy1
    simp at q0 q1
    subst q0 q1
    exact ⟨a, b, e1, bounds_i64 wa, bounds_i64 wb⟩
  clear hA0 hval0
  refine (walk l0 g0 W i0 j0).mono fun e W' ⟨he, bel⟩ => ?_
  subst he
  exact ⟨_, rfl, _, _, _, [], _, [], hW', trodAll_mk1 (shut_bool Try.underlying4 _), (trodAll_cons_mk (Below.trod laidOut (by kernel_rfl) (of_decide_eq_true (by kernel_rfl)) k0 bel lt0) trodAll_mk0), rfl, bel.frame _, fun h => by cases h⟩

theorem over : Rows.fnExactIvNegRow.holds Try.pinned (OpenSpec.ofChange Rows.fnExactIvNegSpec) :=
  OpenClaim.holds_of_wide 8 Try.f8 rfl rfl rfl rfl rfl rfl rfl ⟨rfl, rfl, rfl, rfl, rfl⟩ rfl rfl rfl rfl rfl (by kernel_rfl) Try.func8 (by kernel_rfl)
    (of_decide_eq_true (by kernel_rfl)) (by unfold Func.isWrapper; first | (rw [if_pos (by decide +kernel)]; kernel_rfl) | (rw [if_neg (by decide +kernel)]; exact ⟨rfl, rfl⟩))
    (fun os started H enc _ => lifted os started H enc)
end Go.Proofs.Ytpngklfkdjbggaa.fnExactIvNeg

namespace Go.Proofs.Ytpngklfkdjbggaa
/-- The given statement. -/
theorem fnExactIvNeg_holds : Rows.FnExactIvNegSaid := fnExactIvNeg.over
#print axioms fnExactIvNeg_holds
end Go.Proofs.Ytpngklfkdjbggaa
