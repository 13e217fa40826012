/- The law on FnExactEnvHas: its walk. -/
import Derived.Test.YthbpmkfegceigaaDoorLawG
import Derived.Test.YthbpmkfegceigaaDoorHasD
namespace Go.Proofs.YthbpmkfegceigaaDoor
open Go.RowKit
set_option linter.unusedSimpArgs false
set_option linter.unusedVariables false

set_option maxRecDepth 20000 in
set_option maxHeartbeats 16000000 in
theorem lawEnvHas (va0 fa0 ra0 : Option Addr) (vc0 fc0 rc0 : Nat) (vs0 fs0 : List ByteArray) (rs0 : List (ByteArray × Int)) (li1 : Bool) (xa1 ya1 : Option Addr) (xc1 yc1 : Nat) (xs1 ys1 : List (Int × Int)) (ia2 ba2 ja2 : Option Addr) (ic2 bc2 jc2 : Nat) (is2 : List Int) (bs2 : List Bool) (js2 : List (List Int)) (w : World) (hw : KW w) (hv0 : StrsA w va0 vs0) (hf0 : StrsA w fa0 fs0) (hr0 : ArrsA w ra0 rs0) (hx1 : IvsA w xa1 xs1) (hy1 : IvsA w ya1 ys1) (hi2 : IntsA w ia2 is2) (hb2 : BoolsA w ba2 bs2) (hj2 : MatsA w ja2 js2) :
    Calls Tryd.prog 3 #[.agg #[.slice va0 vs0.length vc0, .slice fa0 fs0.length fc0, .slice ra0 rs0.length rc0], .agg #[.bool li1, .slice xa1 xs1.length xc1, .slice ya1 ys1.length yc1], .agg #[.slice ia2 is2.length ic2, .slice ba2 bs2.length bc2, .slice ja2 js2.length jc2]] w fun e w' => e = .returned (.bool true) ∧ Below w.heap.size w w' := by
  have HW := hide hw
  have HV0 := hide hv0
  have HF0 := hide hf0
  have HR0 := hide hr0
  have HX1 := hide hx1
  have HY1 := hide hy1
  have HI2 := hide hi2
  have HO2 := hide hb2
  have HJ2 := hide hj2
  have HB := hide (B3.new w (.slice va0 vs0.length vc0) (.slice fa0 fs0.length fc0) (.slice ra0 rs0.length rc0) (.bool li1) (.slice xa1 xs1.length xc1) (.slice ya1 ys1.length yc1) (.slice ia2 is2.length ic2) (.slice ba2 bs2.length bc2) (.slice ja2 js2.length jc2) 25 28 33)
  clear hw hv0 hf0 hr0 hx1 hy1 hi2 hb2 hj2
  go_enter Tryd.func3, Tryd.ntmps3
  go_wp2_with fail
  generalize (((w.alloc (Obj.cells #[.slice va0 vs0.length vc0, .slice fa0 fs0.length fc0, .slice ra0 rs0.length rc0] 25)).alloc (Obj.cells #[.bool li1, .slice xa1 xs1.length xc1, .slice ya1 ys1.length yc1] 28)).alloc (Obj.cells #[.slice ia2 is2.length ic2, .slice ba2 bs2.length bc2, .slice ja2 js2.length jc2] 33)) = u0 at HB ⊢
  refine (szDecl_c va0 fa0 ra0 vc0 fc0 rc0 vs0 fs0 rs0 1048576 (by decide) (by decide) _ ((unhide HV0).call (unhide HB).2.2.2) ((unhide HF0).call (unhide HB).2.2.2) ((unhide HR0).call (unhide HB).2.2.2)).mono ?_
  rintro e v0 ⟨rfl, kb⟩
  have HB := hide ((unhide HB).call kb)
  have hok := @szD_ok vs0 fs0 rs0 1048576 (by decide) (by decide)
  clear kb
  generalize szD vs0 fs0 rs0 1048576 = left0 at hok ⊢
  by_cases hn : left0 < 0
  · clear hok
    go_wp2
    go_ret
    exact ⟨rfl, (unhide HB).2.2.2⟩
  obtain ⟨⟨l1_0, l2_0, l3_0⟩, hz, l4_0⟩ := hok (by omega)
  have SV0 := hide (Strs.ofA (unhide HV0) l1_0)
  have SF0 := hide (Strs.ofA (unhide HF0) l2_0)
  have SR0 := hide (Arrs.ofA (unhide HR0) l3_0)
  have HZ0 := hide hz
  have ln_0 : 0 ≤ left0 := by omega
  clear hok hz HV0 HF0 HR0 hn l1_0 l2_0 l3_0
  have p10 := (unhide HB).2.1.1
  have p11 := (unhide HB).2.1.2.1
  have p12 := (unhide HB).2.1.2.2.1
  go_wp2_with fail
  refine (szEnv_c li1 xa1 ya1 xc1 yc1 xs1.length ys1.length left0 ln_0 l4_0 _ (unhide HX1).1 (unhide HY1).1).mono ?_
  rintro e v1 ⟨rfl, kb⟩
  have HB := hide ((unhide HB).call kb)
  have hok := szE_le xs1.length ys1.length left0 ln_0
  clear kb p10 p11 p12
  generalize szE xs1.length ys1.length left0 = left1 at hok ⊢
  by_cases hn : left1 < 0
  · clear hok
    go_wp2
    go_ret
    exact ⟨rfl, (unhide HB).2.2.2⟩
  obtain ⟨l1_1, l2_1⟩ := hok.2.2 (by omega)
  have SX1 := hide (Ivs.ofA (unhide HX1) (by omega))
  have SY1 := hide (Ivs.ofA (unhide HY1) (by omega))
  have ln_1 : 0 ≤ left1 := by omega
  have l4_1 : left1 ≤ 1048576 := by have := hok.1; omega
  clear hok HX1 HY1 hn l1_1 l2_1
  have p20 := (unhide HB).2.2.1.1
  have p21 := (unhide HB).2.2.1.2.1
  have p22 := (unhide HB).2.2.1.2.2.1
  go_wp2_with fail
  refine (szStore_c ia2 ba2 ja2 ic2 bc2 jc2 is2.length bs2.length js2 left1 ln_1 l4_1 _ (unhide HI2).1 (unhide HO2).1 ((unhide HJ2).call (unhide HB).2.2.2)).mono ?_
  rintro e v2 ⟨rfl, kb⟩
  have HB := hide ((unhide HB).call kb)
  have hok := szT_le is2.length bs2.length js2 left1 ln_1
  clear kb p20 p21 p22
  generalize szT is2.length bs2.length js2 left1 = left2 at hok ⊢
  by_cases hn : left2 < 0
  · clear hok
    go_wp2
    go_ret
    exact ⟨rfl, (unhide HB).2.2.2⟩
  obtain ⟨l1_2, l2_2, l3_2, l5_2⟩ := hok.2.2 (by omega)
  have SI2 := hide (Ints.ofA (unhide HI2) (by omega))
  have SB2 := hide (Bools.ofA (unhide HO2) (by omega))
  have SJ2 := hide (Mats.ofA (unhide HJ2) (by omega) (fun x hx => by have := l5_2 x hx; omega))
  have ln_2 : 0 ≤ left2 := by omega
  have l4_2 : left2 ≤ 1048576 := by have := hok.1; omega
  clear hok HI2 HO2 HJ2 hn l1_2 l2_2 l3_2 l5_2
  have hs := G3.of (unhide HB)
  go_wp2
  go_region_held3 (G3 w w.heap.size (.slice va0 vs0.length vc0) (.slice fa0 fs0.length fc0) (.slice ra0 rs0.length rc0) (.bool li1) (.slice xa1 xs1.length xc1) (.slice ya1 ys1.length yc1) (.slice ia2 is2.length ic2) (.slice ba2 bs2.length bc2) (.slice ja2 js2.length jc2))
    (first | exact G3.drew (by assumption) | exact hs0 | exact hs1 | exact hs2 | exact hs3)
    (first
      | (go_at_call_of 12 va0; refine (toDecl_c va0 fa0 ra0 vc0 fc0 rc0 vs0 fs0 rs0 _ ((unhide SV0).call hs.drew.b3.2.2.2) ((unhide SF0).call hs.drew.b3.2.2.2) ((unhide SR0).call hs.drew.b3.2.2.2)).mono ?_; rintro e y0 ⟨b0_1, b0_2, b0_3, rfl, Q0_1, Q0_2, Q0_3, _, hb0⟩; have hs0 := G3.call hb0 hs.drew)
      | (go_at_call_of 13 xa1; refine (toEnv_c li1 xa1 ya1 xc1 yc1 xs1 ys1 _ ((unhide SX1).call hs0.b3.2.2.2) ((unhide SY1).call hs0.b3.2.2.2)).mono ?_; rintro e y1 ⟨b1_1, b1_2, rfl, Q1_1, Q1_2, _, hb1⟩; have Q0_1 := Q0_1.call hb1; have Q0_2 := Q0_2.call hb1; have Q0_3 := Q0_3.call hb1; have hs1 := G3.call hb1 hs0)
      | (go_at_call_of 14 ia2; refine (toStore_c ia2 ba2 ja2 ic2 bc2 jc2 is2 bs2 js2 _ ((unhide SI2).call hs1.b3.2.2.2) ((unhide SB2).call hs1.b3.2.2.2) ((unhide SJ2).call hs1.b3.2.2.2)).mono ?_; rintro e y2 ⟨b2_1, b2_2, b2_3, rfl, Q2_1, Q2_2, Q2_3, _, hb2⟩; have Q0_1 := Q0_1.call hb2; have Q0_2 := Q0_2.call hb2; have Q0_3 := Q0_3.call hb2; have Q1_1 := Q1_1.call hb2; have Q1_2 := Q1_2.call hb2; have hs2 := G3.call hb2 hs1)
      | (go_at_call 11; refine (sEnvHas_c b0_1 b0_2 b0_3 _ _ _ vs0 fs0 rs0 li1 b1_1 b1_2 _ _ xs1 ys1 b2_1 b2_2 b2_3 _ _ _ is2 bs2 js2 _ Q0_1.1 Q0_2.1 Q0_3.1 (unhide HZ0) Q1_1.1 Q1_2.1 Q2_1.1 Q2_3.mats).mono ?_; rintro e y3 ⟨rfl, hb3⟩; have hs3 := G3.call hb3 hs2))
  have HB := hide hs3.b3
  clear Q0_1 Q0_2 Q0_3 Q1_1 Q1_2 Q2_1 Q2_2 Q2_3 hb0 hb1 hb2 hb3 hs hs0 hs1 hs2 hs3
  rename_i hHeld
  clear hHeld
  generalize hres : hasD vs0 fs0 rs0 li1 xs1 ys1 is2 bs2 js2 = ok
  have HOK := hide hres
  clear hres
  have p00 := (unhide HB).1.1
  have p01 := (unhide HB).1.2.1
  have p02 := (unhide HB).1.2.2.1
  go_wp2_with fail
  refine (toDecl_c va0 fa0 ra0 vc0 fc0 rc0 vs0 fs0 rs0 _ ((unhide SV0).call (unhide HB).2.2.2) ((unhide SF0).call (unhide HB).2.2.2) ((unhide SR0).call (unhide HB).2.2.2)).mono ?_
  rintro e x0 ⟨c0_1, c0_2, c0_3, rfl, R0_1, R0_2, R0_3, _, kb⟩
  have HB := hide ((unhide HB).call kb)
  have HR0_1 := hide R0_1
  have HR0_2 := hide R0_2
  have HR0_3 := hide R0_3
  clear kb R0_1 R0_2 R0_3 p00 p01 p02
  have ka := (Below.refl _ x0).alloc (Nat.le_refl _) (Obj.cells #[.slice (some ⟨c0_1, 0, none⟩) vs0.length vs0.length, .slice (some ⟨c0_2, 0, none⟩) fs0.length fs0.length, .slice (some ⟨c0_3, 0, none⟩) rs0.length rs0.length] 40)
  have HB := hide ((unhide HB).call ka)
  have HR0_1 := hide ((unhide HR0_1).call ka)
  have HR0_2 := hide ((unhide HR0_2).call ka)
  have HR0_3 := hide ((unhide HR0_3).call ka)
  have HA0 := hide (C3.new x0 (.slice (some ⟨c0_1, 0, none⟩) vs0.length vs0.length) (.slice (some ⟨c0_2, 0, none⟩) fs0.length fs0.length) (.slice (some ⟨c0_3, 0, none⟩) rs0.length rs0.length) 40)
  clear ka
  obtain ⟨X0, hX⟩ : ∃ X, X = x0.heap.size := ⟨_, rfl⟩
  obtain ⟨z0, hz⟩ : ∃ z, z = x0.alloc (Obj.cells #[.slice (some ⟨c0_1, 0, none⟩) vs0.length vs0.length, .slice (some ⟨c0_2, 0, none⟩) fs0.length fs0.length, .slice (some ⟨c0_3, 0, none⟩) rs0.length rs0.length] 40) := ⟨_, rfl⟩
  rw [← hX, ← hz] at HA0
  rw [← hz] at HB HR0_1 HR0_2 HR0_3
  have hXZ := hide (And.intro hX hz)
  clear hX hz
  go_upto_region 13 with fail
  rw [← (unhide hXZ).1, ← (unhide hXZ).2]
  clear hXZ
  have p10 := (unhide HB).2.1.1
  have p11 := (unhide HB).2.1.2.1
  have p12 := (unhide HB).2.1.2.2.1
  go_wp2_with fail
  refine (toEnv_c li1 xa1 ya1 xc1 yc1 xs1 ys1 _ ((unhide SX1).call (unhide HB).2.2.2) ((unhide SY1).call (unhide HB).2.2.2)).mono ?_
  rintro e x1 ⟨c1_1, c1_2, rfl, R1_1, R1_2, _, kb⟩
  have HB := hide ((unhide HB).call kb)
  have HR0_1 := hide ((unhide HR0_1).call kb)
  have HR0_2 := hide ((unhide HR0_2).call kb)
  have HR0_3 := hide ((unhide HR0_3).call kb)
  have HA0 := hide ((unhide HA0).call kb)
  have HR1_1 := hide R1_1
  have HR1_2 := hide R1_2
  clear kb R1_1 R1_2 p10 p11 p12
  have ka := (Below.refl _ x1).alloc (Nat.le_refl _) (Obj.cells #[.bool li1, .slice (some ⟨c1_1, 0, none⟩) xs1.length xs1.length, .slice (some ⟨c1_2, 0, none⟩) ys1.length ys1.length] 44)
  have HB := hide ((unhide HB).call ka)
  have HR0_1 := hide ((unhide HR0_1).call ka)
  have HR0_2 := hide ((unhide HR0_2).call ka)
  have HR0_3 := hide ((unhide HR0_3).call ka)
  have HA0 := hide ((unhide HA0).call ka)
  have HR1_1 := hide ((unhide HR1_1).call ka)
  have HR1_2 := hide ((unhide HR1_2).call ka)
  have HA1 := hide (C3.new x1 (.bool li1) (.slice (some ⟨c1_1, 0, none⟩) xs1.length xs1.length) (.slice (some ⟨c1_2, 0, none⟩) ys1.length ys1.length) 44)
  clear ka
  obtain ⟨X1, hX⟩ : ∃ X, X = x1.heap.size := ⟨_, rfl⟩
  obtain ⟨z1, hz⟩ : ∃ z, z = x1.alloc (Obj.cells #[.bool li1, .slice (some ⟨c1_1, 0, none⟩) xs1.length xs1.length, .slice (some ⟨c1_2, 0, none⟩) ys1.length ys1.length] 44) := ⟨_, rfl⟩
  rw [← hX, ← hz] at HA1
  rw [← hz] at HB HR0_1 HR0_2 HR0_3 HA0 HR1_1 HR1_2
  have hXZ := hide (And.intro hX hz)
  clear hX hz
  go_upto_region 14 with fail
  rw [← (unhide hXZ).1, ← (unhide hXZ).2]
  clear hXZ
  have p20 := (unhide HB).2.2.1.1
  have p21 := (unhide HB).2.2.1.2.1
  have p22 := (unhide HB).2.2.1.2.2.1
  go_wp2_with fail
  refine (toStore_c ia2 ba2 ja2 ic2 bc2 jc2 is2 bs2 js2 _ ((unhide SI2).call (unhide HB).2.2.2) ((unhide SB2).call (unhide HB).2.2.2) ((unhide SJ2).call (unhide HB).2.2.2)).mono ?_
  rintro e x2 ⟨c2_1, c2_2, c2_3, rfl, R2_1, R2_2, R2_3, _, kb⟩
  have HB := hide ((unhide HB).call kb)
  have HR0_1 := hide ((unhide HR0_1).call kb)
  have HR0_2 := hide ((unhide HR0_2).call kb)
  have HR0_3 := hide ((unhide HR0_3).call kb)
  have HA0 := hide ((unhide HA0).call kb)
  have HR1_1 := hide ((unhide HR1_1).call kb)
  have HR1_2 := hide ((unhide HR1_2).call kb)
  have HA1 := hide ((unhide HA1).call kb)
  have HR2_1 := hide R2_1
  have HR2_2 := hide R2_2
  have HR2_3 := hide R2_3
  clear kb R2_1 R2_2 R2_3 p20 p21 p22
  have ka := (Below.refl _ x2).alloc (Nat.le_refl _) (Obj.cells #[.slice (some ⟨c2_1, 0, none⟩) is2.length is2.length, .slice (some ⟨c2_2, 0, none⟩) bs2.length bs2.length, .slice (some ⟨c2_3, 0, none⟩) js2.length js2.length] 46)
  have HB := hide ((unhide HB).call ka)
  have HR0_1 := hide ((unhide HR0_1).call ka)
  have HR0_2 := hide ((unhide HR0_2).call ka)
  have HR0_3 := hide ((unhide HR0_3).call ka)
  have HA0 := hide ((unhide HA0).call ka)
  have HR1_1 := hide ((unhide HR1_1).call ka)
  have HR1_2 := hide ((unhide HR1_2).call ka)
  have HA1 := hide ((unhide HA1).call ka)
  have HR2_1 := hide ((unhide HR2_1).call ka)
  have HR2_2 := hide ((unhide HR2_2).call ka)
  have HR2_3 := hide ((unhide HR2_3).call ka)
  have HA2 := hide (C3.new x2 (.slice (some ⟨c2_1, 0, none⟩) is2.length is2.length) (.slice (some ⟨c2_2, 0, none⟩) bs2.length bs2.length) (.slice (some ⟨c2_3, 0, none⟩) js2.length js2.length) 46)
  clear ka
  obtain ⟨X2, hX⟩ : ∃ X, X = x2.heap.size := ⟨_, rfl⟩
  obtain ⟨z2, hz⟩ : ∃ z, z = x2.alloc (Obj.cells #[.slice (some ⟨c2_1, 0, none⟩) is2.length is2.length, .slice (some ⟨c2_2, 0, none⟩) bs2.length bs2.length, .slice (some ⟨c2_3, 0, none⟩) js2.length js2.length] 46) := ⟨_, rfl⟩
  rw [← hX, ← hz] at HA2
  rw [← hz] at HB HR0_1 HR0_2 HR0_3 HA0 HR1_1 HR1_2 HA1 HR2_1 HR2_2 HR2_3
  have hXZ := hide (And.intro hX hz)
  clear hX hz
  go_upto_region 15 with fail
  rw [← (unhide hXZ).1, ← (unhide hXZ).2]
  clear hXZ
  have a00 := (unhide HA0).1
  have a01 := (unhide HA0).2.1
  have a02 := (unhide HA0).2.2.1
  have a10 := (unhide HA1).1
  have a11 := (unhide HA1).2.1
  have a12 := (unhide HA1).2.2.1
  have a20 := (unhide HA2).1
  have a21 := (unhide HA2).2.1
  have a22 := (unhide HA2).2.2.1
  go_wp2_with fail
  refine (iEnvHas_c c0_1 c0_2 c0_3 _ _ _ vs0 fs0 rs0 li1 c1_1 c1_2 _ _ xs1 ys1 c2_1 c2_2 c2_3 _ _ _ is2 bs2 js2 _ ((unhide HW).call (unhide HB).2.2.2) (unhide HR0_1).1 (unhide HR0_2).1 (unhide HR0_3).1 (unhide HZ0) (unhide HR1_1).1 (unhide HR1_2).1 (unhide HR2_1).1 (unhide HR2_3).mats).mono ?_
  rintro e s0 ⟨rfl, kb⟩
  have HB := hide ((unhide HB).call kb)
  have HR0_1 := hide ((unhide HR0_1).call kb)
  have HR0_2 := hide ((unhide HR0_2).call kb)
  have HR0_3 := hide ((unhide HR0_3).call kb)
  have HA0 := hide ((unhide HA0).call kb)
  have HR1_1 := hide ((unhide HR1_1).call kb)
  have HR1_2 := hide ((unhide HR1_2).call kb)
  have HA1 := hide ((unhide HA1).call kb)
  have HR2_1 := hide ((unhide HR2_1).call kb)
  have HR2_2 := hide ((unhide HR2_2).call kb)
  have HR2_3 := hide ((unhide HR2_3).call kb)
  have HA2 := hide ((unhide HA2).call kb)
  clear kb a00 a01 a02 a10 a11 a12 a20 a21 a22
  rw [unhide HOK]
  have hh := H6.of (unhide HA0) (unhide HB).1 (Below.refl _ s0)
  go_wp2
  go_region_held3 (H6 s0 X0 (w.heap.size) (.slice (some ⟨c0_1, 0, none⟩) vs0.length vs0.length) (.slice (some ⟨c0_2, 0, none⟩) fs0.length fs0.length) (.slice (some ⟨c0_3, 0, none⟩) rs0.length rs0.length) (.slice va0 vs0.length vc0) (.slice fa0 fs0.length fc0) (.slice ra0 rs0.length rc0))
    (first | exact H6.drew (by assumption) | exact hq | exact hq2)
    (first
      | (go_at_call 12; refine (toDecl_c va0 fa0 ra0 vc0 fc0 rc0 vs0 fs0 rs0 _ (((unhide SV0).call (unhide HB).2.2.2).call hh.drew.below) (((unhide SF0).call (unhide HB).2.2.2).call hh.drew.below) (((unhide SR0).call (unhide HB).2.2.2).call hh.drew.below)).mono ?_; rintro e w1 ⟨d0_1, d0_2, d0_3, rfl, Q1, Q2, Q3, _, hb⟩; have hq := H6.call hb hh.drew)
      | (go_at_call 16; refine (eqDecl_c _ _ _ _ _ _ _ _ _ _ _ _ vs0 fs0 rs0 _ ((unhide HR0_1).call hq.below).1 ((unhide HR0_2).call hq.below).1 ((unhide HR0_3).call hq.below).1 Q1.1 Q2.1 Q3.1).mono ?_; rintro e s1 ⟨rfl, hb2⟩; have hq2 := H6.call hb2 hq))
  have kb := hq2.below
  have HB := hide ((unhide HB).call kb)
  have HR0_1 := hide ((unhide HR0_1).call kb)
  have HR0_2 := hide ((unhide HR0_2).call kb)
  have HR0_3 := hide ((unhide HR0_3).call kb)
  have HA0 := hide ((unhide HA0).call kb)
  have HR1_1 := hide ((unhide HR1_1).call kb)
  have HR1_2 := hide ((unhide HR1_2).call kb)
  have HA1 := hide ((unhide HA1).call kb)
  have HR2_1 := hide ((unhide HR2_1).call kb)
  have HR2_2 := hide ((unhide HR2_2).call kb)
  have HR2_3 := hide ((unhide HR2_3).call kb)
  have HA2 := hide ((unhide HA2).call kb)
  clear hq hq2 hh hb hb2 kb Q1 Q2 Q3
  rename_i hHeld
  clear hHeld
  have hh := H6.of (unhide HA1) (unhide HB).2.1 (Below.refl _ s1)
  go_wp2
  go_region_held3 (H6 s1 X1 (w.heap.size + 1) (.bool li1) (.slice (some ⟨c1_1, 0, none⟩) xs1.length xs1.length) (.slice (some ⟨c1_2, 0, none⟩) ys1.length ys1.length) (.bool li1) (.slice xa1 xs1.length xc1) (.slice ya1 ys1.length yc1))
    (first | exact H6.drew (by assumption) | exact hq | exact hq2)
    (first
      | (go_at_call 13; refine (toEnv_c li1 xa1 ya1 xc1 yc1 xs1 ys1 _ (((unhide SX1).call (unhide HB).2.2.2).call hh.drew.below) (((unhide SY1).call (unhide HB).2.2.2).call hh.drew.below)).mono ?_; rintro e w1 ⟨d1_1, d1_2, rfl, Q1, Q2, _, hb⟩; have hq := H6.call hb hh.drew)
      | (go_at_call 17; refine (eqEnv_c li1 _ _ _ _ _ _ _ _ xs1 ys1 _ ((unhide HR1_1).call hq.below).1 ((unhide HR1_2).call hq.below).1 Q1.1 Q2.1).mono ?_; rintro e s2 ⟨rfl, hb2⟩; have hq2 := H6.call hb2 hq))
  have kb := hq2.below
  have HB := hide ((unhide HB).call kb)
  have HR0_1 := hide ((unhide HR0_1).call kb)
  have HR0_2 := hide ((unhide HR0_2).call kb)
  have HR0_3 := hide ((unhide HR0_3).call kb)
  have HA0 := hide ((unhide HA0).call kb)
  have HR1_1 := hide ((unhide HR1_1).call kb)
  have HR1_2 := hide ((unhide HR1_2).call kb)
  have HA1 := hide ((unhide HA1).call kb)
  have HR2_1 := hide ((unhide HR2_1).call kb)
  have HR2_2 := hide ((unhide HR2_2).call kb)
  have HR2_3 := hide ((unhide HR2_3).call kb)
  have HA2 := hide ((unhide HA2).call kb)
  clear hq hq2 hh hb hb2 kb Q1 Q2
  rename_i hHeld
  clear hHeld
  have hh := H6.of (unhide HA2) (unhide HB).2.2.1 (Below.refl _ s2)
  go_wp2
  go_region_held3 (H6 s2 X2 (w.heap.size + 2) (.slice (some ⟨c2_1, 0, none⟩) is2.length is2.length) (.slice (some ⟨c2_2, 0, none⟩) bs2.length bs2.length) (.slice (some ⟨c2_3, 0, none⟩) js2.length js2.length) (.slice ia2 is2.length ic2) (.slice ba2 bs2.length bc2) (.slice ja2 js2.length jc2))
    (first | exact H6.drew (by assumption) | exact hq | exact hq2)
    (first
      | (go_at_call 14; refine (toStore_c ia2 ba2 ja2 ic2 bc2 jc2 is2 bs2 js2 _ (((unhide SI2).call (unhide HB).2.2.2).call hh.drew.below) (((unhide SB2).call (unhide HB).2.2.2).call hh.drew.below) (((unhide SJ2).call (unhide HB).2.2.2).call hh.drew.below)).mono ?_; rintro e w1 ⟨d2_1, d2_2, d2_3, rfl, Q1, Q2, Q3, _, hb⟩; have hq := H6.call hb hh.drew)
      | (go_at_call 18; refine (eqStore_c _ _ _ _ _ _ _ _ _ _ _ _ is2 bs2 js2 _ ((unhide HR2_1).call hq.below).1 ((unhide HR2_2).call hq.below).1 ((unhide HR2_3).call hq.below).mats Q1.1 Q2.1 Q3.mats).mono ?_; rintro e s3 ⟨rfl, hb2⟩; have hq2 := H6.call hb2 hq))
  have kb := hq2.below
  have HB := hide ((unhide HB).call kb)
  have HR0_1 := hide ((unhide HR0_1).call kb)
  have HR0_2 := hide ((unhide HR0_2).call kb)
  have HR0_3 := hide ((unhide HR0_3).call kb)
  have HA0 := hide ((unhide HA0).call kb)
  have HR1_1 := hide ((unhide HR1_1).call kb)
  have HR1_2 := hide ((unhide HR1_2).call kb)
  have HA1 := hide ((unhide HA1).call kb)
  have HR2_1 := hide ((unhide HR2_1).call kb)
  have HR2_2 := hide ((unhide HR2_2).call kb)
  have HR2_3 := hide ((unhide HR2_3).call kb)
  have HA2 := hide ((unhide HA2).call kb)
  clear hq hq2 hh hb hb2 kb Q1 Q2 Q3
  rename_i hHeld
  clear hHeld
  go_wp2
  go_ret
  exact ⟨rfl, (unhide HB).2.2.2⟩
end Go.Proofs.YthbpmkfegceigaaDoor
