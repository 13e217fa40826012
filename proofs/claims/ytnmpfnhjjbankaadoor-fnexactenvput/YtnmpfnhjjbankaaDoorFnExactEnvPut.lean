/- Proved here: whatever the arguments, where the package's variable keywords starts as the program's text lays it (the card ties that), a call of laws.FnExactEnvPut returns true and leaves its arguments as they were. -/
import Derived.Test.YtnmpfnhjjbankaaDoorRows
import Derived.Test.YtnmpfnhjjbankaaDoorTie
import Derived.Test.YtnmpfnhjjbankaaDoorCards
import Derived.SevenTiedAt
import Derived.WalkSmall
import Derived.OpenShut
import Derived.ChangeVars
import Derived.ChangeOld
import Derived.Lib.SmallJoins
import Derived.LaidMore
import Derived.Test.YtnmpfnhjjbankaaDoorLawZ
namespace Go.Proofs.YtnmpfnhjjbankaaDoor.fnExactEnvPut
open Go.ChangeShapes Go.WideShapes Go.ChangeAt Go.RowKit
set_option linter.unusedVariables false
set_option linter.unusedSimpArgs false

theorem own : ownKnob Tryd.prog.godebug = none := by kernel_rfl
theorem laidOut : laidOutB Tryd.prog = true := by kernel_rfl
theorem door_met (os : Os) (args : Array Value) : laidMetH Tryd.prog [("loop.example/g00719/impl.keywords", Rows.laid_loop_example_g00719_impl_keywords)] ((World.doorLaid Tryd.prog 400 os).forCall (fun _ _ => 0) ⟨#[], args, []⟩).memory :=
  laidMetH_of_parts3 (fuel := 8) (laidMet_of_run' 8 (by kernel_rfl) (by kernel_rfl)) (by kernel_rfl) (by kernel_rfl)

set_option maxRecDepth 100000 in
theorem lifted (os : Os) (started : os.Started) (H : Type) (enc : TypeId × Value → H) :
    ReturnsInHanded {} Tryd.checked os 5 .any (fun w args => (Rows.fnExactEnvPutSpec.pre enc Tryd.prog Tryd.f5 [] false w args ∧ laidMetH Tryd.prog [("loop.example/g00719/impl.keywords", Rows.laid_loop_example_g00719_impl_keywords)] w) ∧ sizedMet enc Tryd.prog Tryd.f5 (OpenSpec.ofChange Rows.fnExactEnvPutSpec) false w args)
      (Rows.fnExactEnvPutSpec.post enc Tryd.prog Tryd.f5 false true false false) := by
  refine returnsInHanded_of_change_and (C := Tryd.checked) (X := fun w _ => laidMetH Tryd.prog [("loop.example/g00719/impl.keywords", Rows.laid_loop_example_g00719_impl_keywords)] w) (fun _ _ _ hh h => h.of_heap hh) own started (by kernel_rfl) Tryd.func5
    (ChangeSpec.witness_shaped (enc := enc) (C := Tryd.checked) (os := os) (X := fun w _ => laidMetH Tryd.prog [("loop.example/g00719/impl.keywords", Rows.laid_loop_example_g00719_impl_keywords)] w) false (World.doorLaid Tryd.prog 400 os) #[.agg #[.slice none 0 0, .slice none 0 0, .slice none 0 0], .agg #[.bool false, .slice none 0 0, .slice none 0 0], .int .i64 0, .agg #[.int .i64 0, .int .i64 0], .agg #[.int .i64 0, .int .i64 0]] 8 rfl (World.shaped_of_RefB (by kernel_rfl) (by kernel_rfl)) (by kernel_rfl) (by kernel_rfl) (by kernel_rfl) (door_met os _)) ?_
  intro W base args ds gs before hval0 hW _ _ hL _
  have hval : ∀ (j : Nat) t v, Tryd.f5.params[j]? = some t → args[j]? = some v → Value.okWide Tryd.prog W .any base t v := hval0
  have hW' := hW
  obtain ⟨p, q, hA0, hV0, rfl, hfz, hnd⟩ := hW
  have hA : DataW.TrodAll enc Tryd.prog W 0 (fun _ => true) true Tryd.f5.params.toList args.toList ds p := hA0
  have hV : DataW.TrodVars enc Tryd.prog W (fun _ => true) ["loop.example/g00719/impl.keywords"] gs q := hV0
  rw [Tryd.params5] at hA hval
  obtain ⟨v0, vs_0, d0, ds0, p0, q0, hargs, rfl, rfl, h0, r0⟩ := trodAll_cons hA
  obtain ⟨v1, vs_1, d1, ds1, p1, q1, rfl, rfl, rfl, h1, r1⟩ := trodAll_cons r0
  obtain ⟨v2, vs_2, d2, ds2, p2, q2, rfl, rfl, rfl, h2, r2⟩ := trodAll_cons r1
  obtain ⟨v3, vs_3, d3, ds3, p3, q3, rfl, rfl, rfl, h3, r3⟩ := trodAll_cons r2
  obtain ⟨v4, vs_4, d4, ds4, p4, q4, rfl, rfl, rfl, h4, r4⟩ := trodAll_cons r3
  obtain ⟨rfl, rfl, rfl⟩ := trodAll_nil r4
  obtain rfl : args = #[v0, v1, v2, v3, v4] := by cases args; simp_all
  obtain ⟨g, tg, cs, fuel, dg, pg, rfl, hg, htg, hvar, hd, rfl⟩ := trodVars_one hV
  obtain rfl := Option.some.inj (gKw.symm.trans hg)
  obtain rfl := Option.some.inj (tKw.symm.trans htg)
  have kg : DataW.Trod enc Tryd.prog W 0 (fun _ => true) true 122 (.agg cs) dg pg := ⟨fuel, hd⟩
  have ltg : ∀ x ∈ pg, x.block < W.heap.size := by obtain ⟨m, hm⟩ := kg; exact DataW.trod_lt m _ _ _ hm
  have k0 := h0
  have lt0 : ∀ x ∈ p0, x.block < W.heap.size := by obtain ⟨m, hm⟩ := k0; exact DataW.trod_lt m _ _ _ hm
  obtain ⟨e0, e1, e2, y0, y1, y2, m, rfl, _, _, hy0, hy1, hy2⟩ := Joins.open_agg3 Tryd.underlying25 (by kernel_rfl) (by kernel_rfl) (hval 0 25 v0 rfl rfl) h0
  obtain ⟨va0, vc0, vs0, rfl, fv0⟩ := openS hy0
  obtain ⟨fa0, fc0, fs0, rfl, ff0⟩ := openS hy1
  obtain ⟨ra0, rc0, rs0, rfl, fr0⟩ := openA hy2
  have k1 := h1
  have lt1 : ∀ x ∈ p1, x.block < W.heap.size := by obtain ⟨m, hm⟩ := k1; exact DataW.trod_lt m _ _ _ hm
  obtain ⟨e0, e1, e2, y0, y1, y2, m, rfl, _, _, hy0, hy1, hy2⟩ := Joins.open_agg3 Tryd.underlying44 (by kernel_rfl) (by kernel_rfl) (hval 1 44 v1 rfl rfl) h1
  obtain ⟨li1, rfl⟩ := openT hy0
  obtain ⟨xa1, xc1, xs1, rfl, fx1⟩ := openV hy1
  obtain ⟨ya1, yc1, ys1, rfl, fy1⟩ := openV hy2
  have k2 := h2
  have lt2 : ∀ x ∈ p2, x.block < W.heap.size := by obtain ⟨m, hm⟩ := k2; exact DataW.trod_lt m _ _ _ hm
  obtain ⟨a2, rfl, w2⟩ : ∃ a, v2 = .int .i64 a ∧ (Lit.int .i64 a).wf = true := by
    obtain ⟨a, e1, _, _, wa⟩ := open_int Tryd.underlying2 (hval 2 2 v2 rfl rfl) h2
    exact ⟨a, e1, wa⟩
  have k3 := h3
  have lt3 : ∀ x ∈ p3, x.block < W.heap.size := by obtain ⟨m, hm⟩ := k3; exact DataW.trod_lt m _ _ _ hm
  obtain ⟨l3, g3, rfl, i3, j3⟩ : ∃ l g, v3 = .agg #[.int .i64 l, .int .i64 g] ∧ (-9223372036854775808 ≤ l ∧ l ≤ 9223372036854775807) ∧ (-9223372036854775808 ≤ g ∧ g ≤ 9223372036854775807) := by
    obtain ⟨c0, c1, y0, y1, m, e1, _, _, hy0, hy1⟩ := Joins.open_agg2 Tryd.underlying57 (by kernel_rfl) (by kernel_rfl) (hval 3 57 v3 rfl rfl) h3
    obtain ⟨a, q0, _, wa⟩ := DataW.trod_int Tryd.underlying2 hy0
    obtain ⟨b, q1, _, wb⟩ := DataW.trod_int Tryd.underlying2 hy1
    simp at q0 q1
    subst q0 q1
    exact ⟨a, b, e1, bounds_i64 wa, bounds_i64 wb⟩
  have k4 := h4
  have lt4 : ∀ x ∈ p4, x.block < W.heap.size := by obtain ⟨m, hm⟩ := k4; exact DataW.trod_lt m _ _ _ hm
  obtain ⟨l4, g4, rfl, i4, j4⟩ : ∃ l g, v4 = .agg #[.int .i64 l, .int .i64 g] ∧ (-9223372036854775808 ≤ l ∧ l ≤ 9223372036854775807) ∧ (-9223372036854775808 ≤ g ∧ g ≤ 9223372036854775807) := by
    obtain ⟨c0, c1, y0, y1, m, e1, _, _, hy0, hy1⟩ := Joins.open_agg2 Tryd.underlying57 (by kernel_rfl) (by kernel_rfl) (hval 4 57 v4 rfl rfl) h4
    obtain ⟨a, q0, _, wa⟩ := DataW.trod_int Tryd.underlying2 hy0
    obtain ⟨b, q1, _, wb⟩ := DataW.trod_int Tryd.underlying2 hy1
    simp at q0 q1
    subst q0 q1
    exact ⟨a, b, e1, bounds_i64 wa, bounds_i64 wb⟩
  clear hA0 hV0 hval0
  have hkw := kw_of_laid hL
  refine (lawEnvPut va0 fa0 ra0 vc0 fc0 rc0 vs0 fs0 rs0 li1 xa1 ya1 xc1 yc1 xs1 ys1 a2 l3 g3 l4 g4 W hkw fv0 ff0 fr0 fx1 fy1 (bounds_i64 w2) i3 j3 i4 j4).mono fun e W' ⟨he, bel⟩ => ?_
  subst he
  have g0 : 0 < W.heap.size := World.block_lt_of_cell? W _ (hkw 0 (by decide))
  obtain ⟨fg, kg'⟩ := Below.trod laidOut (by kernel_rfl) (of_decide_eq_true (by kernel_rfl)) kg bel ltg
  exact ⟨_, rfl, _, _, _, [], _, _, hW', trodAll_mk1 (shut_bool Tryd.underlying4 _), (trodAll_cons_mk (Below.trod laidOut (by kernel_rfl) (of_decide_eq_true (by kernel_rfl)) k0 bel lt0) (trodAll_cons_mk (Below.trod laidOut (by kernel_rfl) (of_decide_eq_true (by kernel_rfl)) k1 bel lt1) (trodAll_cons_mk (Below.trod laidOut (by kernel_rfl) (of_decide_eq_true (by kernel_rfl)) k2 bel lt2) (trodAll_cons_mk (Below.trod laidOut (by kernel_rfl) (of_decide_eq_true (by kernel_rfl)) k3 bel lt3) (trodAll_cons_mk (Below.trod laidOut (by kernel_rfl) (of_decide_eq_true (by kernel_rfl)) k4 bel lt4) trodAll_mk0))))), trodVars_mk1 hg htg (var?_below bel hg g0 hvar) kg', bel.frame _, fun h => by cases h⟩

theorem over : Rows.FnExactEnvPutSaid :=
  OpenClaim.holds_of_wide 5 Tryd.f5 rfl rfl rfl rfl rfl rfl rfl ⟨rfl, rfl, rfl, rfl, rfl⟩ rfl rfl rfl rfl rfl (by kernel_rfl) Tryd.func5 (by kernel_rfl)
    (of_decide_eq_true (by kernel_rfl)) (by unfold Func.isWrapper; first | (rw [if_pos (by decide +kernel)]; kernel_rfl) | (rw [if_neg (by decide +kernel)]; exact ⟨rfl, rfl⟩))
    (fun os started H enc _ => lifted os started H enc)
end Go.Proofs.YtnmpfnhjjbankaaDoor.fnExactEnvPut

namespace Go.Proofs.YtnmpfnhjjbankaaDoor
open Go
/-- The given statement: the card. -/
theorem fnExactEnvPut_holds : Rows.FnExactEnvPutCardSaid :=
  Claim7.holds_tied_plain_at .later [] [.data] true (true, "22dc5421a47b7a6f0d1dedfa40d873edff78e33d93a2f546eec03f17296559b1") false
    fnExactEnvPut.over (fun _ h => by cases h) (by kernel_rfl) (fun _ h => by cases h) fnExactEnvPut_row_tie rfl ⟨rfl, rfl⟩ (by kernel_rfl) rfl
    (fun f fn hf hfn => by
      obtain rfl : f = 5 := Option.some.inj ((show Tryd.prog.funcNamed "loop.example/g00719/laws.FnExactEnvPut" = some 5 by kernel_rfl).symm.trans hf) |>.symm
      obtain rfl : fn = Tryd.f5 := (Option.some.inj (Tryd.func5.symm.trans hfn)).symm
      exact ⟨by kernel_rfl, fun j t ht => by
        rw [Tryd.params5] at ht
        have hm : t ∈ [25, 44, 2, 57, 57] := by simpa using Array.mem_of_getElem? ht
        have hall : ([25, 44, 2, 57, 57].all fun u => !Tryd.prog.wantsStandIn u) = true := by kernel_rfl
        exact (show Tryd.prog.wantsStandIn t = false by simpa using List.all_eq_true.1 hall t hm)⟩)
    (by kernel_rfl)
#print axioms fnExactEnvPut_holds
end Go.Proofs.YtnmpfnhjjbankaaDoor
