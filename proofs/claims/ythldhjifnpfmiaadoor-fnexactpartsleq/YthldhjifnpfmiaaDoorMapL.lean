/- Rows of bounds that came in; the walks of the laws of tables. -/
import Derived.Test.YthldhjifnpfmiaaDoorParO
import Derived.Test.YthldhjifnpfmiaaDoorMapH
namespace Go.Proofs.YthldhjifnpfmiaaDoor
open Go.ChangeShapes Go.WideShapes Go.ChangeAt Go.RowKit
set_option linter.unusedSimpArgs false
set_option linter.unusedVariables false

set_option maxRecDepth 20000 in
set_option maxHeartbeats 8000000 in
theorem lawPartsLeq (va fa ra : Option Addr) (vc fc rc : Nat) (vs fs : List ByteArray) (rs : List (ByteArray × Int)) (ta1 : Option Addr) (tc1 : Nat) (es1 : List PR) (ta2 : Option Addr) (tc2 : Nat) (es2 : List PR) (w : World) (hw : KW w) (hv : StrsA w va vs) (hf : StrsA w fa fs) (hr : ArrsA w ra rs) (he1 : PartsA w ta1 es1) (he2 : PartsA w ta2 es2) :
    Calls Tryd.prog 3 #[.agg #[.slice va vs.length vc, .slice fa fs.length fc, .slice ra rs.length rc], .slice ta1 es1.length tc1, .slice ta2 es2.length tc2] w fun e w' => e = .returned (.bool true) ∧ Below w.heap.size w w' := by
  have HW := hide hw
  have HV := hide hv
  have HF := hide hf
  have HR := hide hr
  have HE1 := hide he1
  have HE2 := hide he2
  have HT := hide (C3.new w (.slice va vs.length vc) (.slice fa fs.length fc) (.slice ra rs.length rc) 25)
  have HK := hide ((Below.refl _ w).alloc (Nat.le_refl _) (Obj.cells #[.slice va vs.length vc, .slice fa fs.length fc, .slice ra rs.length rc] 25))
  clear hw hv hf hr he1 he2
  go_enter Tryd.func3, Tryd.ntmps3
  go_wp2_with fail
  generalize w.alloc (Obj.cells #[.slice va vs.length vc, .slice fa fs.length fc, .slice ra rs.length rc] 25) = u0 at HT HK ⊢
  refine (szDecl_c va fa ra vc fc rc vs fs rs 1048576 (by decide) (by decide) _ ((unhide HV).call (unhide HK)) ((unhide HF).call (unhide HK)) ((unhide HR).call (unhide HK))).mono ?_
  rintro e v0 ⟨rfl, kb⟩
  have HT := hide ((unhide HT).call kb)
  have HK := hide ((unhide HK).trans (kb.mono (unhide HK).size))
  clear kb
  have hok := @szD_ok vs fs rs 1048576 (by decide) (by decide)
  generalize szD vs fs rs 1048576 = left0 at hok ⊢
  by_cases hn : left0 < 0
  · clear hok
    go_wp2
    go_ret
    exact ⟨rfl, unhide HK⟩
  obtain ⟨⟨l1, l2, l3⟩, hz, l4_0⟩ := hok (by omega)
  have SV := hide (Strs.ofA (unhide HV) l1)
  have SF := hide (Strs.ofA (unhide HF) l2)
  have SR := hide (Arrs.ofA (unhide HR) l3)
  have HZ := hide hz
  have ln_0 : 0 ≤ left0 := by omega
  clear hok hz HV HF HR hn l1 l2 l3
  go_wp2_with fail
  refine (szPartS_c ta1 tc1 es1 left0 ln_0 l4_0 _ ((unhide HE1).call (unhide HK))).mono ?_
  rintro e v1 ⟨rfl, kb⟩
  have HT := hide ((unhide HT).call kb)
  have HK := hide ((unhide HK).trans (kb.mono (unhide HK).size))
  clear kb
  have hok := szPS_le es1 left0 ln_0
  generalize szPS es1 left0 = left1 at hok ⊢
  by_cases hn : left1 < 0
  · clear hok
    go_wp2
    go_ret
    exact ⟨rfl, unhide HK⟩
  have SE1 := hide (Parts.ofA (unhide HE1) (by have := (hok.2.2 (by omega)).1; omega) (fun i hi => ((hok.2.2 (by omega)).2 i hi).mono (by omega)))
  have ln_1 : 0 ≤ left1 := by omega
  have l4_1 : left1 ≤ 1048576 := by have := hok.1; omega
  clear hok HE1 hn
  go_wp2_with fail
  refine (szPartS_c ta2 tc2 es2 left1 ln_1 l4_1 _ ((unhide HE2).call (unhide HK))).mono ?_
  rintro e v2 ⟨rfl, kb⟩
  have HT := hide ((unhide HT).call kb)
  have HK := hide ((unhide HK).trans (kb.mono (unhide HK).size))
  clear kb
  have hok := szPS_le es2 left1 ln_1
  generalize szPS es2 left1 = left2 at hok ⊢
  by_cases hn : left2 < 0
  · clear hok
    go_wp2
    go_ret
    exact ⟨rfl, unhide HK⟩
  have SE2 := hide (Parts.ofA (unhide HE2) (by have := (hok.2.2 (by omega)).1; omega) (fun i hi => ((hok.2.2 (by omega)).2 i hi).mono (by omega)))
  have ln_2 : 0 ≤ left2 := by omega
  have l4_2 : left2 ≤ 1048576 := by have := hok.1; omega
  clear hok HE2 hn
  have t0 := (unhide HT).1
  have t1 := (unhide HT).2.1
  have t2 := (unhide HT).2.2.1
  go_wp2_with fail
  refine (toDecl_c va fa ra vc fc rc vs fs rs _ ((unhide SV).call (unhide HK)) ((unhide SF).call (unhide HK)) ((unhide SR).call (unhide HK))).mono ?_
  rintro e y0 ⟨b1, b2, b3, rfl, Q1, Q2, Q3, _, kb⟩
  clear t0 t1 t2
  have HT := hide ((unhide HT).call kb)
  have HK := hide ((unhide HK).trans (kb.mono (unhide HK).size))
  clear kb
  have HQ1 := hide Q1
  have HQ2 := hide Q2
  have HQ3 := hide Q3
  clear Q1 Q2 Q3
  go_wp2_with fail
  refine (toPartS_c ta1 tc1 es1 _ ((unhide SE1).call (unhide HK))).mono ?_
  rintro e y1 ⟨rfl, O1, kb⟩
  have HT := hide ((unhide HT).call kb)
  have HQ1 := hide ((unhide HQ1).call kb)
  have HQ2 := hide ((unhide HQ2).call kb)
  have HQ3 := hide ((unhide HQ3).call kb)
  have HK := hide ((unhide HK).trans (kb.mono (unhide HK).size))
  clear kb
  have HO1 := hide O1
  clear O1
  go_wp2_with fail
  refine (toPartS_c ta2 tc2 es2 _ ((unhide SE2).call (unhide HK))).mono ?_
  rintro e y2 ⟨rfl, O2, kb⟩
  have HT := hide ((unhide HT).call kb)
  have HQ1 := hide ((unhide HQ1).call kb)
  have HQ2 := hide ((unhide HQ2).call kb)
  have HQ3 := hide ((unhide HQ3).call kb)
  have HO1 := hide ((unhide HO1).call kb)
  have HK := hide ((unhide HK).trans (kb.mono (unhide HK).size))
  clear kb
  have HO2 := hide O2
  clear O2
  go_wp2_with fail
  refine (sPartsLeq_c b1 b2 b3 _ _ _ vs fs rs _ _ es1 _ _ es2 _ (unhide HQ1).1 (unhide HQ2).1 (unhide HQ3).1 (unhide HZ) (unhide HO1) (unhide HO2)).mono ?_
  rintro e y9 ⟨rfl, kb⟩
  have HT := hide ((unhide HT).call kb)
  have HK := hide ((unhide HK).trans (kb.mono (unhide HK).size))
  clear kb
  clear HQ1 HQ2 HQ3 HO1 HO2
  generalize hres : pleqB vs fs rs es1 es2 = ok
  have HOK := hide hres
  clear hres
  have t0 := (unhide HT).1
  have t1 := (unhide HT).2.1
  have t2 := (unhide HT).2.2.1
  go_wp2_with fail
  refine (toDecl_c va fa ra vc fc rc vs fs rs _ ((unhide SV).call (unhide HK)) ((unhide SF).call (unhide HK)) ((unhide SR).call (unhide HK))).mono ?_
  rintro e x0 ⟨c1, c2, c3, rfl, R1, R2, R3, _, kb⟩
  clear t0 t1 t2
  have HT := hide ((unhide HT).call kb)
  have HK := hide ((unhide HK).trans (kb.mono (unhide HK).size))
  clear kb
  have HR1 := hide R1
  have HR2 := hide R2
  have HR3 := hide R3
  clear R1 R2 R3
  have ka := (Below.refl _ x0).alloc (Nat.le_refl _) (Obj.cells #[.slice (some ⟨c1, 0, none⟩) vs.length vs.length, .slice (some ⟨c2, 0, none⟩) fs.length fs.length, .slice (some ⟨c3, 0, none⟩) rs.length rs.length] 32)
  have HA := hide (C3.new x0 (.slice (some ⟨c1, 0, none⟩) vs.length vs.length) (.slice (some ⟨c2, 0, none⟩) fs.length fs.length) (.slice (some ⟨c3, 0, none⟩) rs.length rs.length) 32)
  have HT := hide ((unhide HT).call ka)
  have HR1 := hide ((unhide HR1).call ka)
  have HR2 := hide ((unhide HR2).call ka)
  have HR3 := hide ((unhide HR3).call ka)
  have HK := hide ((unhide HK).trans (ka.mono (unhide HK).size))
  clear ka
  obtain ⟨X0, hX⟩ : ∃ X, X = x0.heap.size := ⟨_, rfl⟩
  obtain ⟨z0, hz⟩ : ∃ z, z = x0.alloc (Obj.cells #[.slice (some ⟨c1, 0, none⟩) vs.length vs.length, .slice (some ⟨c2, 0, none⟩) fs.length fs.length, .slice (some ⟨c3, 0, none⟩) rs.length rs.length] 32) := ⟨_, rfl⟩
  rw [← hX, ← hz] at HA
  rw [← hz] at HT HK HR1 HR2 HR3
  have hXZ := hide (And.intro hX hz)
  clear hX hz
  go_upto_region 13 with fail
  rw [← (unhide hXZ).1, ← (unhide hXZ).2]
  clear hXZ
  go_wp2_with fail
  refine (toPartS_c ta1 tc1 es1 _ ((unhide SE1).call (unhide HK))).mono ?_
  rintro e x1 ⟨rfl, O1, kb⟩
  have HT := hide ((unhide HT).call kb)
  have HR1 := hide ((unhide HR1).call kb)
  have HR2 := hide ((unhide HR2).call kb)
  have HR3 := hide ((unhide HR3).call kb)
  have HA := hide ((unhide HA).call kb)
  have HK := hide ((unhide HK).trans (kb.mono (unhide HK).size))
  clear kb
  have HO1 := hide O1
  clear O1
  generalize z0.heap.size = T1 at HO1 ⊢
  go_wp2_with fail
  refine (toPartS_c ta2 tc2 es2 _ ((unhide SE2).call (unhide HK))).mono ?_
  rintro e x2 ⟨rfl, O2, kb⟩
  have HT := hide ((unhide HT).call kb)
  have HR1 := hide ((unhide HR1).call kb)
  have HR2 := hide ((unhide HR2).call kb)
  have HR3 := hide ((unhide HR3).call kb)
  have HA := hide ((unhide HA).call kb)
  have HO1 := hide ((unhide HO1).call kb)
  have HK := hide ((unhide HK).trans (kb.mono (unhide HK).size))
  clear kb
  have HO2 := hide O2
  clear O2
  generalize x1.heap.size = T2 at HO2 ⊢
  have a0 := (unhide HA).1
  have a1 := (unhide HA).2.1
  have a2 := (unhide HA).2.2.1
  go_wp2_with fail
  refine (iPartsLeq_c c1 c2 c3 _ _ _ vs fs rs _ _ es1 _ _ es2 _ ((unhide HW).call (unhide HK)) (unhide HR1).1 (unhide HR2).1 (unhide HR3).1 (unhide HZ) (unhide HO1) (unhide HO2)).mono ?_
  rintro e s0 ⟨rfl, kb⟩
  clear a0 a1 a2
  have HT := hide ((unhide HT).call kb)
  have HR1 := hide ((unhide HR1).call kb)
  have HR2 := hide ((unhide HR2).call kb)
  have HR3 := hide ((unhide HR3).call kb)
  have HA := hide ((unhide HA).call kb)
  have HO1 := hide ((unhide HO1).call kb)
  have HO2 := hide ((unhide HO2).call kb)
  have HK := hide ((unhide HK).trans (kb.mono (unhide HK).size))
  clear kb
  rw [unhide HOK]
  have hh := H6.of (unhide HA) (unhide HT) (Below.refl _ s0)
  go_wp2
  go_region_held3 (H6 s0 X0 w.heap.size (.slice (some ⟨c1, 0, none⟩) vs.length vs.length) (.slice (some ⟨c2, 0, none⟩) fs.length fs.length) (.slice (some ⟨c3, 0, none⟩) rs.length rs.length) (.slice va vs.length vc) (.slice fa fs.length fc) (.slice ra rs.length rc))
    (first | exact H6.drew (by assumption) | exact hq | exact hq2)
    (first
      | (go_at_call 7; refine (toDecl_c va fa ra vc fc rc vs fs rs _ (((unhide SV).call (unhide HK)).call hh.drew.below) (((unhide SF).call (unhide HK)).call hh.drew.below) (((unhide SR).call (unhide HK)).call hh.drew.below)).mono ?_; rintro e w1 ⟨d1, d2, d3, rfl, Q1, Q2, Q3, _, hb⟩; have hq := H6.call hb hh.drew)
      | (go_at_call 10; refine (eqDecl_c _ _ _ _ _ _ _ _ _ _ _ _ vs fs rs _ ((unhide HR1).call hq.below).1 ((unhide HR2).call hq.below).1 ((unhide HR3).call hq.below).1 Q1.1 Q2.1 Q3.1).mono ?_; rintro e s1 ⟨rfl, hb2⟩; have hq2 := H6.call hb2 hq))
  have kb := hq2.below
  clear hq hq2 hh hb hb2 Q1 Q2 Q3
  rename_i hHeld
  clear hHeld
  have HT := hide ((unhide HT).call kb)
  have HR1 := hide ((unhide HR1).call kb)
  have HR2 := hide ((unhide HR2).call kb)
  have HR3 := hide ((unhide HR3).call kb)
  have HA := hide ((unhide HA).call kb)
  have HO1 := hide ((unhide HO1).call kb)
  have HO2 := hide ((unhide HO2).call kb)
  have HK := hide ((unhide HK).trans (kb.mono (unhide HK).size))
  clear kb
  go_wp2_with fail
  refine (toPartS_c ta1 tc1 es1 _ ((unhide SE1).call (unhide HK))).mono ?_
  rintro e q1 ⟨rfl, O, kb⟩
  have HT := hide ((unhide HT).call kb)
  have HR1 := hide ((unhide HR1).call kb)
  have HR2 := hide ((unhide HR2).call kb)
  have HR3 := hide ((unhide HR3).call kb)
  have HA := hide ((unhide HA).call kb)
  have HO1 := hide ((unhide HO1).call kb)
  have HO2 := hide ((unhide HO2).call kb)
  have HK := hide ((unhide HK).trans (kb.mono (unhide HK).size))
  clear kb
  have HP := hide O
  clear O
  go_wp2_with fail
  refine (eqPartS_c _ _ _ _ es1 _ (unhide HO1).parts (unhide HP).parts).mono ?_
  rintro e r1 ⟨rfl, kb⟩
  have HT := hide ((unhide HT).call kb)
  have HR1 := hide ((unhide HR1).call kb)
  have HR2 := hide ((unhide HR2).call kb)
  have HR3 := hide ((unhide HR3).call kb)
  have HA := hide ((unhide HA).call kb)
  have HO1 := hide ((unhide HO1).call kb)
  have HO2 := hide ((unhide HO2).call kb)
  have HK := hide ((unhide HK).trans (kb.mono (unhide HK).size))
  clear kb
  clear HP
  go_wp2_with fail
  refine (toPartS_c ta2 tc2 es2 _ ((unhide SE2).call (unhide HK))).mono ?_
  rintro e q2 ⟨rfl, O, kb⟩
  have HT := hide ((unhide HT).call kb)
  have HR1 := hide ((unhide HR1).call kb)
  have HR2 := hide ((unhide HR2).call kb)
  have HR3 := hide ((unhide HR3).call kb)
  have HA := hide ((unhide HA).call kb)
  have HO1 := hide ((unhide HO1).call kb)
  have HO2 := hide ((unhide HO2).call kb)
  have HK := hide ((unhide HK).trans (kb.mono (unhide HK).size))
  clear kb
  have HP := hide O
  clear O
  go_wp2_with fail
  refine (eqPartS_c _ _ _ _ es2 _ (unhide HO2).parts (unhide HP).parts).mono ?_
  rintro e r2 ⟨rfl, kb⟩
  have HT := hide ((unhide HT).call kb)
  have HR1 := hide ((unhide HR1).call kb)
  have HR2 := hide ((unhide HR2).call kb)
  have HR3 := hide ((unhide HR3).call kb)
  have HA := hide ((unhide HA).call kb)
  have HO1 := hide ((unhide HO1).call kb)
  have HO2 := hide ((unhide HO2).call kb)
  have HK := hide ((unhide HK).trans (kb.mono (unhide HK).size))
  clear kb
  clear HP
  go_wp2
  go_ret
  exact ⟨rfl, unhide HK⟩
end Go.Proofs.YthldhjifnpfmiaaDoor
