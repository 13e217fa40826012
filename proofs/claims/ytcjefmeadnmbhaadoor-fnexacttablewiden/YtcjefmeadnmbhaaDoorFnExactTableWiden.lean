/- Proved here: whatever the arguments, where the package's variable keywords starts as the program's text lays it (the card ties that), a call of laws.FnExactTableWiden returns true and leaves its arguments as they were. -/
import Derived.Test.YtcjefmeadnmbhaaDoorRows
import Derived.Test.YtcjefmeadnmbhaaDoorTie
import Derived.Test.YtcjefmeadnmbhaaDoorCards
import Derived.SevenTiedAt
import Derived.WalkSmall
import Derived.OpenShut
import Derived.ChangeVars
import Derived.ChangeOld
import Derived.Lib.SmallJoins
import Derived.LaidMore
import Derived.Test.YtcjefmeadnmbhaaDoorLawQ
namespace Go.Proofs.YtcjefmeadnmbhaaDoor.fnExactTableWiden
open Go.ChangeShapes Go.WideShapes Go.ChangeAt Go.RowKit
set_option linter.unusedVariables false
set_option linter.unusedSimpArgs false

theorem own : ownKnob Tryd.prog.godebug = none := by kernel_rfl
theorem laidOut : laidOutB Tryd.prog = true := by kernel_rfl
theorem door_met (os : Os) (args : Array Value) : laidMetH Tryd.prog [("loop.example/g00719/impl.keywords", Rows.laid_loop_example_g00719_impl_keywords)] ((World.doorLaid Tryd.prog 400 os).forCall (fun _ _ => 0) ⟨#[], args, []⟩).memory :=
  laidMetH_of_parts3 (fuel := 8) (laidMet_of_run' 8 (by kernel_rfl) (by kernel_rfl)) (by kernel_rfl) (by kernel_rfl)

set_option maxRecDepth 100000 in
theorem lifted (os : Os) (started : os.Started) (H : Type) (enc : TypeId × Value → H) :
    ReturnsInHanded {} Tryd.checked os 5 .any (fun w args => (Rows.fnExactTableWidenSpec.pre enc Tryd.prog Tryd.f5 [] false w args ∧ laidMetH Tryd.prog [("loop.example/g00719/impl.keywords", Rows.laid_loop_example_g00719_impl_keywords)] w) ∧ sizedMet enc Tryd.prog Tryd.f5 (OpenSpec.ofChange Rows.fnExactTableWidenSpec) false w args)
      (Rows.fnExactTableWidenSpec.post enc Tryd.prog Tryd.f5 false true false false) := by
  refine returnsInHanded_of_change_and (C := Tryd.checked) (X := fun w _ => laidMetH Tryd.prog [("loop.example/g00719/impl.keywords", Rows.laid_loop_example_g00719_impl_keywords)] w) (fun _ _ _ hh h => h.of_heap hh) own started (by kernel_rfl) Tryd.func5
    (ChangeSpec.witness_shaped (enc := enc) (C := Tryd.checked) (os := os) (X := fun w _ => laidMetH Tryd.prog [("loop.example/g00719/impl.keywords", Rows.laid_loop_example_g00719_impl_keywords)] w) false (World.doorLaid Tryd.prog 400 os) #[.agg #[.slice none 0 0, .slice none 0 0, .slice none 0 0], .slice none 0 0, .slice none 0 0, .slice none 0 0] 8 rfl (World.shaped_of_RefB (by kernel_rfl) (by kernel_rfl)) (by kernel_rfl) (by kernel_rfl) (by kernel_rfl) (door_met os _)) ?_
  intro W base args ds gs before hval0 hW _ _ hL _
  have hval : ∀ (j : Nat) t v, Tryd.f5.params[j]? = some t → args[j]? = some v → Value.okWide Tryd.prog W .any base t v := hval0
  have hW' := hW
  obtain ⟨p, q, hA0, hV0, rfl, hfz, hnd⟩ := hW
  have hA : DataW.TrodAll enc Tryd.prog W 0 (fun _ => true) true Tryd.f5.params.toList args.toList ds p := hA0
  have hV : DataW.TrodVars enc Tryd.prog W (fun _ => true) ["loop.example/g00719/impl.keywords"] gs q := hV0
  rw [Tryd.params5] at hA hval
  obtain ⟨v0, vs_0, d0, ds0, p0, q0, hargs, rfl, rfl, h0, r0⟩ := trodAll_cons hA
  obtain ⟨v1, vs_1, d1, ds1, p1, q1, rfl, rfl, rfl, h1, r1⟩ := trodAll_cons r0
  obtain ⟨v2, vs_2, d2, ds2, p2, q2, rfl, rfl, rfl, h2, r2⟩ := trodAll_cons r1
  obtain ⟨v3, vs_3, d3, ds3, p3, q3, rfl, rfl, rfl, h3, r3⟩ := trodAll_cons r2
  obtain ⟨rfl, rfl, rfl⟩ := trodAll_nil r3
  obtain rfl : args = #[v0, v1, v2, v3] := by cases args; simp_all
  obtain ⟨g, tg, cs, fuel, dg, pg, rfl, hg, htg, hvar, hd, rfl⟩ := trodVars_one hV
  obtain rfl := Option.some.inj (gKw.symm.trans hg)
  obtain rfl := Option.some.inj (tKw.symm.trans htg)
  have kg : DataW.Trod enc Tryd.prog W 0 (fun _ => true) true 138 (.agg cs) dg pg := ⟨fuel, hd⟩
  have ltg : ∀ x ∈ pg, x.block < W.heap.size := by obtain ⟨m, hm⟩ := kg; exact DataW.trod_lt m _ _ _ hm
  have k0 := h0
  have lt0 : ∀ x ∈ p0, x.block < W.heap.size := by obtain ⟨m, hm⟩ := k0; exact DataW.trod_lt m _ _ _ hm
  obtain ⟨e0, e1, e2, y0, y1, y2, m, rfl, _, _, hy0, hy1, hy2⟩ := Joins.open_agg3 Tryd.underlying25 (by kernel_rfl) (by kernel_rfl) (hval 0 25 v0 rfl rfl) h0
  obtain ⟨va0, vc0, vs0, rfl, fv0⟩ := openS hy0
  obtain ⟨fa0, fc0, fs0, rfl, ff0⟩ := openS hy1
  obtain ⟨ra0, rc0, rs0, rfl, fr0⟩ := openA hy2
  obtain ⟨ta1, tl1, tc1, rfl⟩ := okWide_slice Tryd.underlying52 (hval 1 52 v1 rfl rfl)
  have k1 := h1
  have lt1 : ∀ x ∈ p1, x.block < W.heap.size := by obtain ⟨m, hm⟩ := k1; exact DataW.trod_lt m _ _ _ hm
  obtain ⟨fuel1, hf1⟩ := h1
  obtain ⟨tb1, tk1, es1, ee1, fe1⟩ := openE3 (v := .slice ta1 tl1 tc1) hf1
  obtain ⟨rfl, rfl, rfl⟩ : ta1 = tb1 ∧ tl1 = es1.length ∧ tc1 = tk1 := by simpa using ee1
  obtain ⟨ta2, tl2, tc2, rfl⟩ := okWide_slice Tryd.underlying52 (hval 2 52 v2 rfl rfl)
  have k2 := h2
  have lt2 : ∀ x ∈ p2, x.block < W.heap.size := by obtain ⟨m, hm⟩ := k2; exact DataW.trod_lt m _ _ _ hm
  obtain ⟨fuel2, hf2⟩ := h2
  obtain ⟨tb2, tk2, es2, ee2, fe2⟩ := openE3 (v := .slice ta2 tl2 tc2) hf2
  obtain ⟨rfl, rfl, rfl⟩ : ta2 = tb2 ∧ tl2 = es2.length ∧ tc2 = tk2 := by simpa using ee2
  obtain ⟨na3, nl3, nc3, rfl⟩ := okWide_slice Tryd.underlying29 (hval 3 29 v3 rfl rfl)
  have k3 := h3
  have lt3 : ∀ x ∈ p3, x.block < W.heap.size := by obtain ⟨m, hm⟩ := k3; exact DataW.trod_lt m _ _ _ hm
  obtain ⟨fuel3, hf3⟩ := h3
  obtain ⟨nb3, nk3, ns3, ee3, fn3⟩ := openI (v := .slice na3 nl3 nc3) hf3
  obtain ⟨rfl, rfl, rfl⟩ : na3 = nb3 ∧ nl3 = ns3.length ∧ nc3 = nk3 := by simpa using ee3
  clear hA0 hV0 hval0
  have hkw := kw_of_laid hL
  refine (lawTableWiden va0 fa0 ra0 vc0 fc0 rc0 vs0 fs0 rs0 ta1 tc1 es1 ta2 tc2 es2 na3 nc3 ns3 W hkw fv0 ff0 fr0 fe1 fe2 fn3).mono fun e W' ⟨he, bel⟩ => ?_
  subst he
  have g0 : 0 < W.heap.size := World.block_lt_of_cell? W _ (hkw 0 (by decide))
  obtain ⟨fg, kg'⟩ := Below.trod laidOut (by kernel_rfl) (of_decide_eq_true (by kernel_rfl)) kg bel ltg
  exact ⟨_, rfl, _, _, _, [], _, _, hW', trodAll_mk1 (shut_bool Tryd.underlying4 _), (trodAll_cons_mk (Below.trod laidOut (by kernel_rfl) (of_decide_eq_true (by kernel_rfl)) k0 bel lt0) (trodAll_cons_mk (Below.trod laidOut (by kernel_rfl) (of_decide_eq_true (by kernel_rfl)) k1 bel lt1) (trodAll_cons_mk (Below.trod laidOut (by kernel_rfl) (of_decide_eq_true (by kernel_rfl)) k2 bel lt2) (trodAll_cons_mk (Below.trod laidOut (by kernel_rfl) (of_decide_eq_true (by kernel_rfl)) k3 bel lt3) trodAll_mk0)))), trodVars_mk1 hg htg (var?_below bel hg g0 hvar) kg', bel.frame _, fun h => by cases h⟩

theorem over : Rows.FnExactTableWidenSaid :=
  OpenClaim.holds_of_wide 5 Tryd.f5 rfl rfl rfl rfl rfl rfl rfl ⟨rfl, rfl, rfl, rfl, rfl⟩ rfl rfl rfl rfl rfl (by kernel_rfl) Tryd.func5 (by kernel_rfl)
    (of_decide_eq_true (by kernel_rfl)) (by unfold Func.isWrapper; first | (rw [if_pos (by decide +kernel)]; kernel_rfl) | (rw [if_neg (by decide +kernel)]; exact ⟨rfl, rfl⟩))
    (fun os started H enc _ => lifted os started H enc)
end Go.Proofs.YtcjefmeadnmbhaaDoor.fnExactTableWiden

namespace Go.Proofs.YtcjefmeadnmbhaaDoor
open Go
/-- The given statement: the card. -/
theorem fnExactTableWiden_holds : Rows.FnExactTableWidenCardSaid :=
  Claim7.holds_tied_plain_at .later [] [.data] true (true, "1a80f25e7aa82e7428183484edb5e27065697b77eae12369a04019aadc2561af") false
    fnExactTableWiden.over (fun _ h => by cases h) (by kernel_rfl) (fun _ h => by cases h) fnExactTableWiden_row_tie rfl ⟨rfl, rfl⟩ (by kernel_rfl) rfl
    (fun f fn hf hfn => by
      obtain rfl : f = 5 := Option.some.inj ((show Tryd.prog.funcNamed "loop.example/g00719/laws.FnExactTableWiden" = some 5 by kernel_rfl).symm.trans hf) |>.symm
      obtain rfl : fn = Tryd.f5 := (Option.some.inj (Tryd.func5.symm.trans hfn)).symm
      exact ⟨by kernel_rfl, fun j t ht => by
        rw [Tryd.params5] at ht
        have hm : t ∈ [25, 52, 52, 29] := by simpa using Array.mem_of_getElem? ht
        have hall : ([25, 52, 52, 29].all fun u => !Tryd.prog.wantsStandIn u) = true := by kernel_rfl
        exact (show Tryd.prog.wantsStandIn t = false by simpa using List.all_eq_true.1 hall t hm)⟩)
    (by kernel_rfl)
#print axioms fnExactTableWiden_holds
end Go.Proofs.YtcjefmeadnmbhaaDoor
