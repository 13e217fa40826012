/- Proved here: whatever the arguments, where the package's variable keywords starts as the program's text lays it (the card ties that), a call of laws.FnExactPartsHas returns true and leaves its arguments as they were. -/
import Derived.Test.YthldhjifnpfmiaaGreatDoorRows
import Derived.Test.YthldhjifnpfmiaaGreatDoorTie
import Derived.Test.YthldhjifnpfmiaaGreatDoorCards
import Derived.SevenTiedAt
import Derived.WalkSmall
import Derived.OpenShut
import Derived.ChangeVars
import Derived.ChangeOld
import Derived.Lib.SmallJoins
import Derived.LaidMore
import Derived.Test.YthldhjifnpfmiaaGreatDoorMapM
namespace Go.Proofs.YthldhjifnpfmiaaGreatDoor.fnExactPartsHas
open Go.ChangeShapes Go.WideShapes Go.ChangeAt Go.RowKit
set_option linter.unusedVariables false
set_option linter.unusedSimpArgs false

theorem own : ownKnob Tryz.prog.godebug = none := by kernel_rfl
theorem laidOut : laidOutB Tryz.prog = true := by kernel_rfl
theorem door_met (os : Os) (args : Array Value) : laidMetH Tryz.prog [("loop.example/g00719/impl.keywords", Rows.laid_loop_example_g00719_impl_keywords)] ((World.doorLaid Tryz.prog 400 os).forCall (fun _ _ => 0) ⟨#[], args, []⟩).memory :=
  laidMetH_of_parts3 (fuel := 8) (laidMet_of_run' 8 (by kernel_rfl) (by kernel_rfl)) (by kernel_rfl) (by kernel_rfl)

set_option maxRecDepth 100000 in
theorem lifted (os : Os) (started : os.Started) (H : Type) (enc : TypeId × Value → H) :
    ReturnsInHanded {} Tryz.checked os 3 .any (fun w args => (Rows.fnExactPartsHasSpec.pre enc Tryz.prog Tryz.f3 [] false w args ∧ laidMetH Tryz.prog [("loop.example/g00719/impl.keywords", Rows.laid_loop_example_g00719_impl_keywords)] w) ∧ sizedMet enc Tryz.prog Tryz.f3 (OpenSpec.ofChange Rows.fnExactPartsHasSpec) false w args)
      (Rows.fnExactPartsHasSpec.post enc Tryz.prog Tryz.f3 false true false false) := by
  refine returnsInHanded_of_change_and (C := Tryz.checked) (X := fun w _ => laidMetH Tryz.prog [("loop.example/g00719/impl.keywords", Rows.laid_loop_example_g00719_impl_keywords)] w) (fun _ _ _ hh h => h.of_heap hh) own started (by kernel_rfl) Tryz.func3
    (ChangeSpec.witness_shaped (enc := enc) (C := Tryz.checked) (os := os) (X := fun w _ => laidMetH Tryz.prog [("loop.example/g00719/impl.keywords", Rows.laid_loop_example_g00719_impl_keywords)] w) false (World.doorLaid Tryz.prog 400 os) #[.agg #[.slice none 0 0, .slice none 0 0, .slice none 0 0], .slice none 0 0, .slice none 0 0, .agg #[.slice none 0 0, .slice none 0 0, .slice none 0 0]] 8 rfl (World.shaped_of_RefB (by kernel_rfl) (by kernel_rfl)) (by kernel_rfl) (by kernel_rfl) (by kernel_rfl) (door_met os _)) ?_
  intro W base args ds gs before hval0 hW _ _ hL _
  have hval : ∀ (j : Nat) t v, Tryz.f3.params[j]? = some t → args[j]? = some v → Value.okWide Tryz.prog W .any base t v := hval0
  have hW' := hW
  obtain ⟨p, q, hA0, hV0, rfl, hfz, hnd⟩ := hW
  have hA : DataW.TrodAll enc Tryz.prog W 0 (fun _ => true) true Tryz.f3.params.toList args.toList ds p := hA0
  have hV : DataW.TrodVars enc Tryz.prog W (fun _ => true) ["loop.example/g00719/impl.keywords"] gs q := hV0
  rw [Tryz.params3] at hA hval
  obtain ⟨v0, vs_0, d0, ds0, p0, q0, hargs, rfl, rfl, h0, r0⟩ := trodAll_cons hA
  obtain ⟨v1, vs_1, d1, ds1, p1, q1, rfl, rfl, rfl, h1, r1⟩ := trodAll_cons r0
  obtain ⟨v2, vs_2, d2, ds2, p2, q2, rfl, rfl, rfl, h2, r2⟩ := trodAll_cons r1
  obtain ⟨v3, vs_3, d3, ds3, p3, q3, rfl, rfl, rfl, h3, r3⟩ := trodAll_cons r2
  obtain ⟨rfl, rfl, rfl⟩ := trodAll_nil r3
  obtain rfl : args = #[v0, v1, v2, v3] := by cases args; simp_all
  obtain ⟨g, tg, cs, fuel, dg, pg, rfl, hg, htg, hvar, hd, rfl⟩ := trodVars_one hV
  obtain rfl := Option.some.inj (gKw.symm.trans hg)
  obtain rfl := Option.some.inj (tKw.symm.trans htg)
  have kg : DataW.Trod enc Tryz.prog W 0 (fun _ => true) true 146 (.agg cs) dg pg := ⟨fuel, hd⟩
  have ltg : ∀ x ∈ pg, x.block < W.heap.size := by obtain ⟨m, hm⟩ := kg; exact DataW.trod_lt m _ _ _ hm
  have k0 := h0
  have lt0 : ∀ x ∈ p0, x.block < W.heap.size := by obtain ⟨m, hm⟩ := k0; exact DataW.trod_lt m _ _ _ hm
  obtain ⟨e0, e1, e2, y0, y1, y2, m, rfl, _, _, hy0, hy1, hy2⟩ := Joins.open_agg3 Tryz.underlying25 (by kernel_rfl) (by kernel_rfl) (hval 0 25 v0 rfl rfl) h0
  obtain ⟨va0, vc0, vs0, rfl, fv0⟩ := openS hy0
  obtain ⟨fa0, fc0, fs0, rfl, ff0⟩ := openS hy1
  obtain ⟨ra0, rc0, rs0, rfl, fr0⟩ := openA hy2
  obtain ⟨ta1, tl1, tc1, rfl⟩ := okWide_slice Tryz.underlying26 (hval 1 26 v1 rfl rfl)
  have k1 := h1
  have lt1 : ∀ x ∈ p1, x.block < W.heap.size := by obtain ⟨m, hm⟩ := k1; exact DataW.trod_lt m _ _ _ hm
  obtain ⟨fuel1, hf1⟩ := h1
  obtain ⟨tb1, tk1, es1, ee1, fe1⟩ := openP3 (v := .slice ta1 tl1 tc1) hf1
  obtain ⟨rfl, rfl, rfl⟩ : ta1 = tb1 ∧ tl1 = es1.length ∧ tc1 = tk1 := by simpa using ee1
  obtain ⟨ta2, tl2, tc2, rfl⟩ := okWide_slice Tryz.underlying27 (hval 2 27 v2 rfl rfl)
  have k2 := h2
  have lt2 : ∀ x ∈ p2, x.block < W.heap.size := by obtain ⟨m, hm⟩ := k2; exact DataW.trod_lt m _ _ _ hm
  obtain ⟨fuel2, hf2⟩ := h2
  obtain ⟨tb2, tk2, es2, ee2, fe2⟩ := openQ (v := .slice ta2 tl2 tc2) hf2
  obtain ⟨rfl, rfl, rfl⟩ : ta2 = tb2 ∧ tl2 = es2.length ∧ tc2 = tk2 := by simpa using ee2
  have k3 := h3
  have lt3 : ∀ x ∈ p3, x.block < W.heap.size := by obtain ⟨m, hm⟩ := k3; exact DataW.trod_lt m _ _ _ hm
  obtain ⟨e0, e1, e2, y0, y1, y2, m, rfl, _, _, hy0, hy1, hy2⟩ := Joins.open_agg3 Tryz.underlying32 (by kernel_rfl) (by kernel_rfl) (hval 3 32 v3 rfl rfl) h3
  obtain ⟨ia3, ic3, is3, rfl, fi3⟩ := openI hy0
  obtain ⟨ba3, bc3, bs3, rfl, fb3⟩ := openB hy1
  obtain ⟨ja3, jc3, js3, rfl, fj3⟩ := openJ hy2
  clear hA0 hV0 hval0
  have hkw := kw_of_laid hL
  refine (lawPartsHas va0 fa0 ra0 vc0 fc0 rc0 vs0 fs0 rs0 ta1 tc1 es1 ta2 tc2 es2 ia3 ba3 ja3 ic3 bc3 jc3 is3 bs3 js3 W hkw fv0 ff0 fr0 fe1 fe2 fi3 fb3 fj3).mono fun e W' ⟨he, bel⟩ => ?_
  subst he
  have g0 : 0 < W.heap.size := World.block_lt_of_cell? W _ (hkw 0 (by decide))
  obtain ⟨fg, kg'⟩ := Below.trod laidOut (by kernel_rfl) (of_decide_eq_true (by kernel_rfl)) kg bel ltg
  exact ⟨_, rfl, _, _, _, [], _, _, hW', trodAll_mk1 (shut_bool Tryz.underlying4 _), (trodAll_cons_mk (Below.trod laidOut (by kernel_rfl) (of_decide_eq_true (by kernel_rfl)) k0 bel lt0) (trodAll_cons_mk (Below.trod laidOut (by kernel_rfl) (of_decide_eq_true (by kernel_rfl)) k1 bel lt1) (trodAll_cons_mk (Below.trod laidOut (by kernel_rfl) (of_decide_eq_true (by kernel_rfl)) k2 bel lt2) (trodAll_cons_mk (Below.trod laidOut (by kernel_rfl) (of_decide_eq_true (by kernel_rfl)) k3 bel lt3) trodAll_mk0)))), trodVars_mk1 hg htg (var?_below bel hg g0 hvar) kg', bel.frame _, fun h => by cases h⟩

theorem over : Rows.FnExactPartsHasSaid :=
  OpenClaim.holds_of_wide 3 Tryz.f3 rfl rfl rfl rfl rfl rfl rfl ⟨rfl, rfl, rfl, rfl, rfl⟩ rfl rfl rfl rfl rfl (by kernel_rfl) Tryz.func3 (by kernel_rfl)
    (of_decide_eq_true (by kernel_rfl)) (by unfold Func.isWrapper; first | (rw [if_pos (by decide +kernel)]; kernel_rfl) | (rw [if_neg (by decide +kernel)]; exact ⟨rfl, rfl⟩))
    (fun os started H enc _ => lifted os started H enc)
end Go.Proofs.YthldhjifnpfmiaaGreatDoor.fnExactPartsHas

namespace Go.Proofs.YthldhjifnpfmiaaGreatDoor
open Go
/-- The given statement: the card. -/
theorem fnExactPartsHas_holds : Rows.FnExactPartsHasCardSaid :=
  Claim7.holds_tied_plain_at .later [] [.data] true (true, "3cae11ce9434935976becc4dba386cf88eb2dc91ead691e667d1d8df81755a5f") false
    fnExactPartsHas.over (fun _ h => by cases h) (by kernel_rfl) (fun _ h => by cases h) fnExactPartsHas_row_tie rfl ⟨rfl, rfl⟩ (by kernel_rfl) rfl
    (fun f fn hf hfn => by
      obtain rfl : f = 3 := Option.some.inj ((show Tryz.prog.funcNamed "loop.example/g00719/laws.FnExactPartsHas" = some 3 by kernel_rfl).symm.trans hf) |>.symm
      obtain rfl : fn = Tryz.f3 := (Option.some.inj (Tryz.func3.symm.trans hfn)).symm
      exact ⟨by kernel_rfl, fun j t ht => by
        rw [Tryz.params3] at ht
        have hm : t ∈ [25, 26, 27, 32] := by simpa using Array.mem_of_getElem? ht
        have hall : ([25, 26, 27, 32].all fun u => !Tryz.prog.wantsStandIn u) = true := by kernel_rfl
        exact (show Tryz.prog.wantsStandIn t = false by simpa using List.all_eq_true.1 hall t hm)⟩)
    (by kernel_rfl)
#print axioms fnExactPartsHas_holds
end Go.Proofs.YthldhjifnpfmiaaGreatDoor
