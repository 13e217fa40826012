/- The law on PartsHas: its walk. -/
import Derived.Test.YthldhjifnpfmiaaGreatDoorParO
import Derived.Test.YthldhjifnpfmiaaGreatDoorMapI
import Derived.Test.YthldhjifnpfmiaaGreatDoorLawS
namespace Go.Proofs.YthldhjifnpfmiaaGreatDoor
open Go.ChangeShapes Go.WideShapes Go.ChangeAt Go.RowKit
set_option linter.unusedSimpArgs false
set_option linter.unusedVariables false

theorem J6.drew {w0 u : World} {a q : Nat} {x y z x1 y1 z1 : Value} (k : J6 w0 a q x y z x1 y1 z1 u) : J6 w0 a q x y z x1 y1 z1 u.drew := J6.call k (Below.refl _ _).drew
set_option maxRecDepth 20000 in
set_option maxHeartbeats 8000000 in
theorem lawPartsHas (va fa ra : Option Addr) (vc fc rc : Nat) (vs fs : List ByteArray) (rs : List (ByteArray × Int)) (ta1 : Option Addr) (tc1 : Nat) (es1 : List PR) (qa : Option Addr) (qc : Nat) (qs : List (Int × Int)) (ia ba ja : Option Addr) (ic bc jc : Nat) (is : List Int) (bs : List Bool) (js : List (List Int)) (w : World) (hw : KW w) (hv : StrsA w va vs) (hf : StrsA w fa fs) (hr : ArrsA w ra rs) (he1 : PartsA w ta1 es1) (hq : IvsA w qa qs) (hi : IntsA w ia is) (hbo : BoolsA w ba bs) (hj : MatsA w ja js) :
    Calls Tryz.prog 3 #[.agg #[.slice va vs.length vc, .slice fa fs.length fc, .slice ra rs.length rc], .slice ta1 es1.length tc1, .slice qa qs.length qc, .agg #[.slice ia is.length ic, .slice ba bs.length bc, .slice ja js.length jc]] w fun e w' => e = .returned (.bool true) ∧ Below w.heap.size w w' := by
  have HW := hide hw
  have HV := hide hv
  have HF := hide hf
  have HR := hide hr
  have HE1 := hide he1
  have HQ := hide hq
  have HI := hide hi
  have HO := hide hbo
  have HJ := hide hj
  have HB := hide (B2.new w (.slice va vs.length vc) (.slice fa fs.length fc) (.slice ra rs.length rc) (.slice ia is.length ic) (.slice ba bs.length bc) (.slice ja js.length jc) 25 32)
  clear hw hv hf hr he1 hi hbo hj hq
  go_enter Tryz.func3, Tryz.ntmps3
  go_wp2_with fail
  generalize (w.alloc (Obj.cells #[.slice va vs.length vc, .slice fa fs.length fc, .slice ra rs.length rc] 25)).alloc (Obj.cells #[.slice ia is.length ic, .slice ba bs.length bc, .slice ja js.length jc] 32) = u0 at HB ⊢
  refine (szDecl_c va fa ra vc fc rc vs fs rs 1048576 (by decide) (by decide) _ ((unhide HV).call (unhide HB).2.2) ((unhide HF).call (unhide HB).2.2) ((unhide HR).call (unhide HB).2.2)).mono ?_
  rintro e v0 ⟨rfl, kb⟩
  have HB := hide ((unhide HB).call kb)
  clear kb
  have hok := @szD_ok vs fs rs 1048576 (by decide) (by decide)
  generalize szD vs fs rs 1048576 = left0 at hok ⊢
  by_cases hn : left0 < 0
  · clear hok
    go_wp2
    go_ret
    exact ⟨rfl, (unhide HB).2.2⟩
  obtain ⟨⟨l1, l2, l3⟩, hz, l4_0⟩ := hok (by omega)
  have SV := hide (Strs.ofA (unhide HV) l1)
  have SF := hide (Strs.ofA (unhide HF) l2)
  have SR := hide (Arrs.ofA (unhide HR) l3)
  have HZ := hide hz
  have ln_0 : 0 ≤ left0 := by omega
  clear hok hz HV HF HR hn l1 l2 l3
  go_wp2_with fail
  refine (szPartS_c ta1 tc1 es1 left0 ln_0 l4_0 _ ((unhide HE1).call (unhide HB).2.2)).mono ?_
  rintro e v1 ⟨rfl, kb⟩
  have HB := hide ((unhide HB).call kb)
  clear kb
  have hok := szPS_le es1 left0 ln_0
  generalize szPS es1 left0 = left1 at hok ⊢
  by_cases hn : left1 < 0
  · clear hok
    go_wp2
    go_ret
    exact ⟨rfl, (unhide HB).2.2⟩
  have SE1 := hide (Parts.ofA (unhide HE1) (by have := (hok.2.2 (by omega)).1; omega) (fun i hi => ((hok.2.2 (by omega)).2 i hi).mono (by omega)))
  have ln_1 : 0 ≤ left1 := by omega
  have l4_1 : left1 ≤ 1048576 := by have := hok.1; omega
  clear hok HE1 hn
  go_wp2_with fail
  refine (szEntryS_c qa qs.length qc left1 (unhide HQ).1 ln_1 l4_1 _).mono ?_
  rintro e v1b ⟨rfl, hv1⟩
  subst hv1
  have hok := sz1_le qs.length left1 ln_1
  generalize sz1 qs.length left1 = leftq at hok ⊢
  by_cases hn : leftq < 0
  · clear hok
    go_wp2
    go_ret
    exact ⟨rfl, (unhide HB).2.2⟩
  have SQ := hide (Ivs.ofA (unhide HQ) (by have := hok.2.2 (by omega); omega))
  have ln_q : 0 ≤ leftq := by omega
  have l4_q : leftq ≤ 1048576 := by have := hok.1; omega
  clear hok HQ hn
  have p0 := (unhide HB).2.1.1
  have p1 := (unhide HB).2.1.2.1
  have p2 := (unhide HB).2.1.2.2.1
  go_wp2_with fail
  refine (szStore_c ia ba ja ic bc jc is.length bs.length js leftq ln_q l4_q _ (unhide HI).1 (unhide HO).1 ((unhide HJ).call (unhide HB).2.2)).mono ?_
  rintro e v2 ⟨rfl, kb⟩
  clear p0 p1 p2
  have HB := hide ((unhide HB).call kb)
  clear kb
  have hok := szT_le is.length bs.length js leftq ln_q
  generalize szT is.length bs.length js leftq = left2 at hok ⊢
  by_cases hn : left2 < 0
  · clear hok
    go_wp2
    go_ret
    exact ⟨rfl, (unhide HB).2.2⟩
  obtain ⟨l1, l2, l3, l5⟩ := hok.2.2 (by omega)
  have SI := hide (Ints.ofA (unhide HI) (by omega))
  have SB := hide (Bools.ofA (unhide HO) (by omega))
  have SJ := hide (Mats.ofA (unhide HJ) (by omega) (fun x hx => by have := l5 x hx; omega))
  have ln_2 : 0 ≤ left2 := by omega
  clear hok HI HO HJ hn l1 l2 l3 l5
  have hs := J6.of (unhide HB)
  go_wp2
  go_region_held3 (J6 w w.heap.size (w.heap.size + 1) (.slice va vs.length vc) (.slice fa fs.length fc) (.slice ra rs.length rc) (.slice ia is.length ic) (.slice ba bs.length bc) (.slice ja js.length jc))
    (first | exact J6.drew (by assumption) | exact hs0 | exact hs1 | exact hs2 | exact hsq | exact hs3)
    (first
      | (go_at_call 9; refine (toDecl_c va fa ra vc fc rc vs fs rs _ ((unhide SV).call hs.drew.bel) ((unhide SF).call hs.drew.bel) ((unhide SR).call hs.drew.bel)).mono ?_; rintro e y0 ⟨b1, b2, b3, rfl, Q1, Q2, Q3, _, hb0⟩; have hs0 := J6.call hs.drew hb0)
      | (go_at_call 10; refine (toPartS_c ta1 tc1 es1 _ ((unhide SE1).call hs0.bel)).mono ?_; rintro e y1 ⟨rfl, O1, hb1⟩; have Q1 := Q1.call hb1; have Q2 := Q2.call hb1; have Q3 := Q3.call hb1; have hs1 := J6.call hs0 hb1)
      | (go_at_call 11; refine (toEntryS_c qa qc qs _ ((unhide SQ).call hs1.bel)).mono ?_; rintro e yq ⟨rfl, Oq, hbq⟩; have Q1 := Q1.call hbq; have Q2 := Q2.call hbq; have Q3 := Q3.call hbq; have O1 := O1.call hbq; have hsq := J6.call hs1 hbq)
      | (go_at_call 12; refine (toStore_c ia ba ja ic bc jc is bs js _ ((unhide SI).call hsq.bel) ((unhide SB).call hsq.bel) ((unhide SJ).call hsq.bel)).mono ?_; rintro e y2 ⟨d1, d2, d3, rfl, Q4, Q5, Q6, _, hb2⟩; have Q1 := Q1.call hb2; have Q2 := Q2.call hb2; have Q3 := Q3.call hb2; have O1 := O1.call hb2; have Oq := Oq.call hb2; have hs2 := J6.call hsq hb2)
      | (go_at_call 8; refine (sPartsHas_c b1 b2 b3 _ _ _ vs fs rs _ _ es1 _ _ qs d1 d2 d3 _ _ _ is bs js _ Q1.1 Q2.1 Q3.1 (unhide HZ) O1 Oq.1 Q4.1 Q5.1 Q6.mats).mono ?_; rintro e y3 ⟨rfl, hb3⟩; have hs3 := J6.call hs2 hb3))
  have HB : Hid (B2 w w.heap.size (w.heap.size + 1) (.slice va vs.length vc) (.slice fa fs.length fc) (.slice ra rs.length rc) (.slice ia is.length ic) (.slice ba bs.length bc) (.slice ja js.length jc) y3) := hs3.2.2.2.2.2.2
  clear Q1 Q2 Q3 Q4 Q5 Q6 O1 Oq hb0 hb1 hbq hb2 hb3 hs hs0 hs1 hsq hs2 hs3
  rename_i hHeld
  clear hHeld
  generalize hres : phasB vs fs rs es1 qs is bs js = ok
  have HOK := hide hres
  clear hres
  have p0 := (unhide HB).1.1
  have p1 := (unhide HB).1.2.1
  have p2 := (unhide HB).1.2.2.1
  go_wp2_with fail
  refine (toDecl_c va fa ra vc fc rc vs fs rs _ ((unhide SV).call (unhide HB).2.2) ((unhide SF).call (unhide HB).2.2) ((unhide SR).call (unhide HB).2.2)).mono ?_
  rintro e x0 ⟨c1, c2, c3, rfl, R1, R2, R3, _, kb⟩
  clear p0 p1 p2
  have HB := hide ((unhide HB).call kb)
  clear kb
  have HR1 := hide R1
  have HR2 := hide R2
  have HR3 := hide R3
  clear R1 R2 R3
  have ka := (Below.refl _ x0).alloc (Nat.le_refl _) (Obj.cells #[.slice (some ⟨c1, 0, none⟩) vs.length vs.length, .slice (some ⟨c2, 0, none⟩) fs.length fs.length, .slice (some ⟨c3, 0, none⟩) rs.length rs.length] 40)
  have HA0 := hide (C3.new x0 (.slice (some ⟨c1, 0, none⟩) vs.length vs.length) (.slice (some ⟨c2, 0, none⟩) fs.length fs.length) (.slice (some ⟨c3, 0, none⟩) rs.length rs.length) 40)
  have HB := hide ((unhide HB).call ka)
  have HR1 := hide ((unhide HR1).call ka)
  have HR2 := hide ((unhide HR2).call ka)
  have HR3 := hide ((unhide HR3).call ka)
  clear ka
  obtain ⟨X0, hX⟩ : ∃ X, X = x0.heap.size := ⟨_, rfl⟩
  obtain ⟨z0, hz⟩ : ∃ z, z = x0.alloc (Obj.cells #[.slice (some ⟨c1, 0, none⟩) vs.length vs.length, .slice (some ⟨c2, 0, none⟩) fs.length fs.length, .slice (some ⟨c3, 0, none⟩) rs.length rs.length] 40) := ⟨_, rfl⟩
  rw [← hX, ← hz] at HA0
  rw [← hz] at HB HR1 HR2 HR3
  have hXZ := hide (And.intro hX hz)
  clear hX hz
  go_upto_region 16 with fail
  rw [← (unhide hXZ).1, ← (unhide hXZ).2]
  clear hXZ
  go_wp2_with fail
  refine (toPartS_c ta1 tc1 es1 _ ((unhide SE1).call (unhide HB).2.2)).mono ?_
  rintro e x1 ⟨rfl, O1, kb⟩
  have HB := hide ((unhide HB).call kb)
  have HR1 := hide ((unhide HR1).call kb)
  have HR2 := hide ((unhide HR2).call kb)
  have HR3 := hide ((unhide HR3).call kb)
  have HA0 := hide ((unhide HA0).call kb)
  clear kb
  have HO1 := hide O1
  clear O1
  generalize z0.heap.size = T1 at HO1 ⊢
  go_wp2_with fail
  refine (toEntryS_c qa qc qs _ ((unhide SQ).call (unhide HB).2.2)).mono ?_
  rintro e x1b ⟨rfl, Oq, kb⟩
  have HB := hide ((unhide HB).call kb)
  have HR1 := hide ((unhide HR1).call kb)
  have HR2 := hide ((unhide HR2).call kb)
  have HR3 := hide ((unhide HR3).call kb)
  have HA0 := hide ((unhide HA0).call kb)
  have HO1 := hide ((unhide HO1).call kb)
  clear kb
  have HOq := hide Oq
  clear Oq
  generalize x1.heap.size = Tq at HOq ⊢
  have p0 := (unhide HB).2.1.1
  have p1 := (unhide HB).2.1.2.1
  have p2 := (unhide HB).2.1.2.2.1
  go_wp2_with fail
  refine (toStore_c ia ba ja ic bc jc is bs js _ ((unhide SI).call (unhide HB).2.2) ((unhide SB).call (unhide HB).2.2) ((unhide SJ).call (unhide HB).2.2)).mono ?_
  rintro e x2 ⟨h1, h2, h3, rfl, R4, R5, R6, _, kb⟩
  clear p0 p1 p2
  have HB := hide ((unhide HB).call kb)
  have HR1 := hide ((unhide HR1).call kb)
  have HR2 := hide ((unhide HR2).call kb)
  have HR3 := hide ((unhide HR3).call kb)
  have HA0 := hide ((unhide HA0).call kb)
  have HO1 := hide ((unhide HO1).call kb)
  have HOq := hide ((unhide HOq).call kb)
  clear kb
  have HR4 := hide R4
  have HR5 := hide R5
  have HR6 := hide R6
  clear R4 R5 R6
  have ka := (Below.refl _ x2).alloc (Nat.le_refl _) (Obj.cells #[.slice (some ⟨h1, 0, none⟩) is.length is.length, .slice (some ⟨h2, 0, none⟩) bs.length bs.length, .slice (some ⟨h3, 0, none⟩) js.length js.length] 46)
  have HA2 := hide (C3.new x2 (.slice (some ⟨h1, 0, none⟩) is.length is.length) (.slice (some ⟨h2, 0, none⟩) bs.length bs.length) (.slice (some ⟨h3, 0, none⟩) js.length js.length) 46)
  have HB := hide ((unhide HB).call ka)
  have HR1 := hide ((unhide HR1).call ka)
  have HR2 := hide ((unhide HR2).call ka)
  have HR3 := hide ((unhide HR3).call ka)
  have HA0 := hide ((unhide HA0).call ka)
  have HO1 := hide ((unhide HO1).call ka)
  have HOq := hide ((unhide HOq).call ka)
  have HR4 := hide ((unhide HR4).call ka)
  have HR5 := hide ((unhide HR5).call ka)
  have HR6 := hide ((unhide HR6).call ka)
  clear ka
  obtain ⟨X2, hX⟩ : ∃ X, X = x2.heap.size := ⟨_, rfl⟩
  obtain ⟨z2, hz⟩ : ∃ z, z = x2.alloc (Obj.cells #[.slice (some ⟨h1, 0, none⟩) is.length is.length, .slice (some ⟨h2, 0, none⟩) bs.length bs.length, .slice (some ⟨h3, 0, none⟩) js.length js.length] 46) := ⟨_, rfl⟩
  rw [← hX, ← hz] at HA2
  rw [← hz] at HB HR1 HR2 HR3 HA0 HO1 HOq HR4 HR5 HR6
  have hXZ := hide (And.intro hX hz)
  clear hX hz
  go_upto_region 19 with fail
  rw [← (unhide hXZ).1, ← (unhide hXZ).2]
  clear hXZ
  have a0 := (unhide HA0).1
  have a1 := (unhide HA0).2.1
  have a2 := (unhide HA0).2.2.1
  have a3 := (unhide HA2).1
  have a4 := (unhide HA2).2.1
  have a5 := (unhide HA2).2.2.1
  go_wp2_with fail
  refine (iPartsHas_c c1 c2 c3 _ _ _ vs fs rs _ _ es1 _ _ qs h1 h2 h3 _ _ _ is bs js _ ((unhide HW).call (unhide HB).2.2) (unhide HR1).1 (unhide HR2).1 (unhide HR3).1 (unhide HZ) (unhide HO1) (unhide HOq).1 (unhide HR4).1 (unhide HR5).1 (unhide HR6).mats).mono ?_
  rintro e s0 ⟨rfl, kb⟩
  clear a0 a1 a2 a3 a4 a5
  have HB := hide ((unhide HB).call kb)
  have HR1 := hide ((unhide HR1).call kb)
  have HR2 := hide ((unhide HR2).call kb)
  have HR3 := hide ((unhide HR3).call kb)
  have HA0 := hide ((unhide HA0).call kb)
  have HO1 := hide ((unhide HO1).call kb)
  have HOq := hide ((unhide HOq).call kb)
  have HR4 := hide ((unhide HR4).call kb)
  have HR5 := hide ((unhide HR5).call kb)
  have HR6 := hide ((unhide HR6).call kb)
  have HA2 := hide ((unhide HA2).call kb)
  clear kb
  rw [unhide HOK]
  have hh := H6.of (unhide HA0) (unhide HB).1 (Below.refl _ s0)
  go_wp2
  go_region_held3 (H6 s0 X0 (w.heap.size) (.slice (some ⟨c1, 0, none⟩) vs.length vs.length) (.slice (some ⟨c2, 0, none⟩) fs.length fs.length) (.slice (some ⟨c3, 0, none⟩) rs.length rs.length) (.slice va vs.length vc) (.slice fa fs.length fc) (.slice ra rs.length rc))
    (first | exact H6.drew (by assumption) | exact hq | exact hq2)
    (first
      | (go_at_call 9; refine (toDecl_c va fa ra vc fc rc vs fs rs _ (((unhide SV).call (unhide HB).2.2).call hh.drew.below) (((unhide SF).call (unhide HB).2.2).call hh.drew.below) (((unhide SR).call (unhide HB).2.2).call hh.drew.below)).mono ?_; rintro e w1 ⟨q1, q2, q3, rfl, Q1, Q2, Q3, _, hb⟩; have hq := H6.call hb hh.drew)
      | (go_at_call 14; refine (eqDecl_c _ _ _ _ _ _ _ _ _ _ _ _ vs fs rs _ ((unhide HR1).call hq.below).1 ((unhide HR2).call hq.below).1 ((unhide HR3).call hq.below).1 Q1.1 Q2.1 Q3.1).mono ?_; rintro e s1 ⟨rfl, hb2⟩; have hq2 := H6.call hb2 hq))
  have kb := hq2.below
  clear hq hq2 hh hb hb2 Q1 Q2 Q3
  rename_i hHeld
  clear hHeld
  have HB := hide ((unhide HB).call kb)
  have HR1 := hide ((unhide HR1).call kb)
  have HR2 := hide ((unhide HR2).call kb)
  have HR3 := hide ((unhide HR3).call kb)
  have HA0 := hide ((unhide HA0).call kb)
  have HO1 := hide ((unhide HO1).call kb)
  have HOq := hide ((unhide HOq).call kb)
  have HR4 := hide ((unhide HR4).call kb)
  have HR5 := hide ((unhide HR5).call kb)
  have HR6 := hide ((unhide HR6).call kb)
  have HA2 := hide ((unhide HA2).call kb)
  clear kb
  go_wp2_with fail
  refine (toPartS_c ta1 tc1 es1 _ ((unhide SE1).call (unhide HB).2.2)).mono ?_
  rintro e q1 ⟨rfl, O, kb⟩
  have HB := hide ((unhide HB).call kb)
  have HR1 := hide ((unhide HR1).call kb)
  have HR2 := hide ((unhide HR2).call kb)
  have HR3 := hide ((unhide HR3).call kb)
  have HA0 := hide ((unhide HA0).call kb)
  have HO1 := hide ((unhide HO1).call kb)
  have HOq := hide ((unhide HOq).call kb)
  have HR4 := hide ((unhide HR4).call kb)
  have HR5 := hide ((unhide HR5).call kb)
  have HR6 := hide ((unhide HR6).call kb)
  have HA2 := hide ((unhide HA2).call kb)
  clear kb
  have HP := hide O
  clear O
  go_wp2_with fail
  refine (eqPartS_c _ _ _ _ es1 _ (unhide HO1).parts (unhide HP).parts).mono ?_
  rintro e s2 ⟨rfl, kb⟩
  have HB := hide ((unhide HB).call kb)
  have HR1 := hide ((unhide HR1).call kb)
  have HR2 := hide ((unhide HR2).call kb)
  have HR3 := hide ((unhide HR3).call kb)
  have HA0 := hide ((unhide HA0).call kb)
  have HO1 := hide ((unhide HO1).call kb)
  have HOq := hide ((unhide HOq).call kb)
  have HR4 := hide ((unhide HR4).call kb)
  have HR5 := hide ((unhide HR5).call kb)
  have HR6 := hide ((unhide HR6).call kb)
  have HA2 := hide ((unhide HA2).call kb)
  clear kb
  clear HP
  go_wp2_with fail
  refine (toEntryS_c qa qc qs _ ((unhide SQ).call (unhide HB).2.2)).mono ?_
  rintro e q2 ⟨rfl, O, kb⟩
  have HB := hide ((unhide HB).call kb)
  have HR1 := hide ((unhide HR1).call kb)
  have HR2 := hide ((unhide HR2).call kb)
  have HR3 := hide ((unhide HR3).call kb)
  have HA0 := hide ((unhide HA0).call kb)
  have HO1 := hide ((unhide HO1).call kb)
  have HOq := hide ((unhide HOq).call kb)
  have HR4 := hide ((unhide HR4).call kb)
  have HR5 := hide ((unhide HR5).call kb)
  have HR6 := hide ((unhide HR6).call kb)
  have HA2 := hide ((unhide HA2).call kb)
  clear kb
  have HP := hide O
  clear O
  go_wp2_with fail
  refine (eqEntryS_c _ _ _ _ qs _ (unhide HOq).1 (unhide HP).1).mono ?_
  rintro e s2b ⟨rfl, kb⟩
  have HB := hide ((unhide HB).call kb)
  have HR1 := hide ((unhide HR1).call kb)
  have HR2 := hide ((unhide HR2).call kb)
  have HR3 := hide ((unhide HR3).call kb)
  have HA0 := hide ((unhide HA0).call kb)
  have HO1 := hide ((unhide HO1).call kb)
  have HOq := hide ((unhide HOq).call kb)
  have HR4 := hide ((unhide HR4).call kb)
  have HR5 := hide ((unhide HR5).call kb)
  have HR6 := hide ((unhide HR6).call kb)
  have HA2 := hide ((unhide HA2).call kb)
  clear kb
  clear HP
  have hh := H6.of (unhide HA2) (unhide HB).2.1 (Below.refl _ s2b)
  go_wp2
  go_region_held3 (H6 s2b X2 (w.heap.size + 1) (.slice (some ⟨h1, 0, none⟩) is.length is.length) (.slice (some ⟨h2, 0, none⟩) bs.length bs.length) (.slice (some ⟨h3, 0, none⟩) js.length js.length) (.slice ia is.length ic) (.slice ba bs.length bc) (.slice ja js.length jc))
    (first | exact H6.drew (by assumption) | exact hq | exact hq2)
    (first
      | (go_at_call 12; refine (toStore_c ia ba ja ic bc jc is bs js _ (((unhide SI).call (unhide HB).2.2).call hh.drew.below) (((unhide SB).call (unhide HB).2.2).call hh.drew.below) (((unhide SJ).call (unhide HB).2.2).call hh.drew.below)).mono ?_; rintro e w1 ⟨q1, q2, q3, rfl, Q1, Q2, Q3, _, hb⟩; have hq := H6.call hb hh.drew)
      | (go_at_call 17; refine (eqStore_c _ _ _ _ _ _ _ _ _ _ _ _ is bs js _ ((unhide HR4).call hq.below).1 ((unhide HR5).call hq.below).1 ((unhide HR6).call hq.below).mats Q1.1 Q2.1 Q3.mats).mono ?_; rintro e s3 ⟨rfl, hb2⟩; have hq2 := H6.call hb2 hq))
  have kb := hq2.below
  clear hq hq2 hh hb hb2 Q1 Q2 Q3
  rename_i hHeld
  clear hHeld
  have HB := hide ((unhide HB).call kb)
  have HR1 := hide ((unhide HR1).call kb)
  have HR2 := hide ((unhide HR2).call kb)
  have HR3 := hide ((unhide HR3).call kb)
  have HA0 := hide ((unhide HA0).call kb)
  have HO1 := hide ((unhide HO1).call kb)
  have HOq := hide ((unhide HOq).call kb)
  have HR4 := hide ((unhide HR4).call kb)
  have HR5 := hide ((unhide HR5).call kb)
  have HR6 := hide ((unhide HR6).call kb)
  have HA2 := hide ((unhide HA2).call kb)
  clear kb
  go_wp2
  go_ret
  exact ⟨rfl, (unhide HB).2.2⟩
end Go.Proofs.YthldhjifnpfmiaaGreatDoor
