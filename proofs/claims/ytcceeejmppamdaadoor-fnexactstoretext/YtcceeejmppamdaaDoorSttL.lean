/- The law of StoreText: its walk; rows of numbers opened, these in range. -/
import Derived.Test.YtcceeejmppamdaaDoorSttF
import Derived.Test.YtcceeejmppamdaaDoorSttD
import Derived.Test.YtcceeejmppamdaaDoorEtxK
import Derived.Test.YtcceeejmppamdaaDoorLawS
namespace Go.Proofs.YtcceeejmppamdaaDoor
open Go.ChangeShapes Go.WideShapes Go.ChangeAt Go.RowKit
set_option linter.unusedSimpArgs false
set_option linter.unusedVariables false

theorem openIR {H : Type} {enc : TypeId × Value → H} {W : World} {fuel : Nat} {v : Value} {y : DataW H × List MemPlace} (h : DataW.trod enc Tryd.prog W 0 (fun _ => true) true fuel 43 [v] = some y) : ∃ a cap xs, v = .slice a (List.length xs) cap ∧ IntsA W a xs ∧ InI xs := by
  rcases Deep.open_slice1 Tryd.underlying43 (by kernel_rfl) h with ⟨hcs, _⟩ | ⟨a, len, cap, m, n, V, D, Pl, hcs, _, hl, hm, hmm, _, hx⟩
  · simp at hcs
    subst hcs
    exact ⟨none, 0, [], rfl, ⟨by simp, .inl rfl⟩, fun i hi => by cases hi⟩
  · simp at hcs hmm
    subst hcs hmm
    have ml : maxLen ≤ 9223372036854775807 := by decide
    have each : ∀ i, i < len → ∃ q : Int, V i = .int .i64 q ∧ (-9223372036854775808 ≤ q ∧ q ≤ 9223372036854775807) := fun i hi => by
      have h1 := (hx i (by omega)).2
      obtain ⟨k, e2, _, w2⟩ := DataW.trod_int Tryd.underlying2 h1
      exact ⟨k, by simpa using e2, bounds_i64 w2⟩
    obtain ⟨Q, hQ⟩ := Deep.choose_lt each
    refine ⟨some a, m, (List.range len).map Q, by simp, ⟨by simp; omega, ?_⟩, fun i hi => by
      simp only [List.length_map, List.length_range] at hi
      simp only [List.getElem_map, List.getElem_range]
      exact (hQ i hi).2⟩
    by_cases h0 : len = 0
    · exact .inl (by simp [h0])
    · have c0 := (hx 0 (by omega)).1
      have ea := addr_none c0
      refine .inr ⟨a.block, a.off, by rw [← ea], fun i hi => ?_⟩
      simp at hi
      have c := (hx i (by omega)).1
      rw [ea, Addr.add_lit, (hQ i (by omega)).1] at c
      simpa using c
theorem openJR {H : Type} {enc : TypeId × Value → H} {W : World} {fuel : Nat} {v : Value} {y : DataW H × List MemPlace} (h : DataW.trod enc Tryd.prog W 0 (fun _ => true) true fuel 45 [v] = some y) : ∃ a cap xs, v = .slice a (List.length xs) cap ∧ MatsA W a xs ∧ InJ xs := by
  rcases Deep.open_slice1 Tryd.underlying45 (by kernel_rfl) h with ⟨hcs, _⟩ | ⟨a, len, cap, m, n, V, D, Pl, hcs, _, hl, hm, hmm, _, hx⟩
  · simp at hcs
    subst hcs
    exact ⟨none, 0, [], rfl, ⟨by simp, fun i hi => by simp at hi, .inl rfl⟩, fun i hi => by cases hi⟩
  · simp at hcs hmm
    subst hcs hmm
    have ml : maxLen ≤ 9223372036854775807 := by decide
    have each : ∀ i, i < len → ∃ q : Option Addr × Nat × List Int, V i = .slice q.1 q.2.2.length q.2.1 ∧ IntsA W q.1 q.2.2 ∧ InI q.2.2 := fun i hi => by
      obtain ⟨b, c, xs, e1, e2⟩ := openIR (hx i (by omega)).2
      exact ⟨(b, c, xs), e1, e2.1, e2.2⟩
    obtain ⟨Q, hQ⟩ := Deep.choose_lt each
    refine ⟨some a, m, (List.range len).map fun i => (Q i).2.2, by simp, ⟨by simp; omega, fun i hi => ?_, ?_⟩, fun i hi => by
      simp only [List.length_map, List.length_range] at hi
      simp only [List.getElem_map, List.getElem_range]
      exact (hQ i hi).2.2⟩
    · simp at hi
      have := (hQ i (by omega)).2.1.1
      simpa using this
    · by_cases h0 : len = 0
      · exact .inl (by simp [h0])
      · have c0 := (hx 0 (by omega)).1
        have ea := addr_none c0
        refine .inr ⟨a.block, a.off, by rw [← ea], fun i hi => ?_⟩
        simp at hi
        have c := (hx i (by omega)).1
        rw [ea, Addr.add_lit, (hQ i (by omega)).1] at c
        have d := (hQ i (by omega)).2.1.2
        exact ⟨(Q i).1, (Q i).2.1, by simpa using c, by simpa using d⟩
set_option maxRecDepth 20000 in
set_option maxHeartbeats 8000000 in
theorem lawStoreText (va fa ra : Option Addr) (vc fc rc : Nat) (vs fs : List ByteArray) (rs : List (ByteArray × Int)) (ia ba ja : Option Addr) (ic bc jc : Nat) (is : List Int) (bs : List Bool) (js : List (List Int)) (w : World) (hwp : KW w ∧ P10 w) (hv : StrsA w va vs) (hf : StrsA w fa fs) (hr : ArrsA w ra rs) (hx : IntsA w ia is ∧ InI is) (hy : BoolsA w ba bs) (hj : MatsA w ja js ∧ InJ js) :
    Calls Tryd.prog 4 #[.agg #[.slice va vs.length vc, .slice fa fs.length fc, .slice ra rs.length rc], .agg #[.slice ia is.length ic, .slice ba bs.length bc, .slice ja js.length jc]] w fun e w' => e = .returned (.bool true) ∧ Below w.heap.size w w' := by
  have HW := hide hwp.1
  have HPP := hide hwp.2
  have HII := hide hx.2
  have HIJ := hide hj.2
  obtain ⟨V, hV⟩ : ∃ V, V = (if storeB vs fs rs is bs js = true then jnS (stW vs fs rs is bs js) else ⟨#[]⟩) := ⟨_, rfl⟩
  have HVV := hide hV
  clear hV
  have HV := hide hv
  have HF := hide hf
  have HR := hide hr
  have HX := hide hx.1
  have HY := hide hy
  have HJ := hide hj.1
  have T0 := (C3.new w (.slice va vs.length vc) (.slice fa fs.length fc) (.slice ra rs.length rc) 25).alloc (Obj.cells #[.slice ia is.length ic, .slice ba bs.length bc, .slice ja js.length jc] 47)
  have T1 := C3.new (w.alloc (Obj.cells #[.slice va vs.length vc, .slice fa fs.length fc, .slice ra rs.length rc] 25)) (.slice ia is.length ic) (.slice ba bs.length bc) (.slice ja js.length jc) 47
  have K0 : Below w.heap.size w ((w.alloc (Obj.cells #[.slice va vs.length vc, .slice fa fs.length fc, .slice ra rs.length rc] 25)).alloc (Obj.cells #[.slice ia is.length ic, .slice ba bs.length bc, .slice ja js.length jc] 47)) := ((Below.refl _ _).alloc (Nat.le_refl _) _).alloc (by simp) _
  rw [show (w.alloc (Obj.cells #[.slice va vs.length vc, .slice fa fs.length fc, .slice ra rs.length rc] 25)).heap.size = w.heap.size + 1 by simp] at T1
  have HT := hide T0
  have HU := hide T1
  have HK := hide K0
  clear T0 T1 K0 hv hf hr hx hy hj hwp
  go_enter Tryd.func4, Tryd.ntmps4
  go_wp2_with fail
  generalize (w.alloc (Obj.cells #[.slice va vs.length vc, .slice fa fs.length fc, .slice ra rs.length rc] 25)).alloc (Obj.cells #[.slice ia is.length ic, .slice ba bs.length bc, .slice ja js.length jc] 47) = u at HT HU HK ⊢
  refine (szDecl_c va fa ra vc fc rc vs fs rs _ (by decide) (by decide) _ ((unhide HV).call (unhide HK)) ((unhide HF).call (unhide HK)) ((unhide HR).call (unhide HK))).mono ?_
  rintro e u1 ⟨rfl, kb⟩
  have HT := hide ((unhide HT).call kb)
  have HU := hide ((unhide HU).call kb)
  have HK := hide ((unhide HK).trans (kb.mono (unhide HK).size))
  have hok := @szD_ok vs fs rs 1048576 (by decide) (by decide)
  clear kb
  generalize szD vs fs rs 1048576 = left at hok ⊢
  by_cases hn : left < 0
  · clear hok
    go_wp2
    go_ret
    exact ⟨rfl, unhide HK⟩
  obtain ⟨⟨l1, l2, l3⟩, hz, l4⟩ := hok (by omega)
  have SV := hide (Strs.ofA (unhide HV) l1)
  have SF := hide (Strs.ofA (unhide HF) l2)
  have SR := hide (Arrs.ofA (unhide HR) l3)
  have HZ := hide hz
  have ln : 0 ≤ left := by omega
  clear hok hz HV HF HR hn
  have t0 := (unhide HU).1
  have t1 := (unhide HU).2.1
  have t2 := (unhide HU).2.2.1
  go_wp2_with fail
  refine (szStore_c ia ba ja ic bc jc is.length bs.length js left ln l4 _ (unhide HX).1 (unhide HY).1 ((unhide HJ).call (unhide HK))).mono ?_
  rintro e u2 ⟨rfl, kb⟩
  have HT := hide ((unhide HT).call kb)
  have HU := hide ((unhide HU).call kb)
  have HK := hide ((unhide HK).trans (kb.mono (unhide HK).size))
  have hok := szT_le is.length bs.length js left ln
  clear kb t0 t1 t2
  generalize szT is.length bs.length js left = left2 at hok ⊢
  by_cases hn : left2 < 0
  · clear hok
    go_wp2
    go_ret
    exact ⟨rfl, unhide HK⟩
  obtain ⟨l5, l6, l7, l8⟩ := hok.2.2 (by omega)
  have SX := hide (Ints.ofA (unhide HX) (by omega))
  have SY := hide (Bools.ofA (unhide HY) (by omega))
  have SJ := hide (Mats.ofA (unhide HJ) (by omega) (fun x hx => by have := l8 x hx; omega))
  clear hok HX HY HJ l8
  have hh := H6.of (unhide HT) (unhide HU) (Below.refl _ u2)
  go_wp2
  go_region_held3 (H6 u2 w.heap.size (w.heap.size + 1) (.slice va vs.length vc) (.slice fa fs.length fc) (.slice ra rs.length rc) (.slice ia is.length ic) (.slice ba bs.length bc) (.slice ja js.length jc))
    (first | exact H6.drew (by assumption) | exact hq | exact hq2 | exact hq3)
    (first
      | (go_at_call 8; refine (toDecl_c va fa ra vc fc rc vs fs rs _ (((unhide SV).call (unhide HK)).call hh.drew.below) (((unhide SF).call (unhide HK)).call hh.drew.below) (((unhide SR).call (unhide HK)).call hh.drew.below)).mono ?_; rintro e w1 ⟨b1, b2, b3, rfl, R1, R2, R3, _, hb⟩; have hq := H6.call hb hh.drew)
      | (go_at_call 15; refine (toStore_c ia ba ja ic bc jc is bs js _ (((unhide SX).call (unhide HK)).call hq.below) (((unhide SY).call (unhide HK)).call hq.below) (((unhide SJ).call (unhide HK)).call hq.below)).mono ?_; rintro e w2 ⟨p1, p2, p3, rfl, R4, R5, R6, _, hb2⟩; have hq2 := H6.call hb2 hq)
      | (go_at_call 14; refine (sStoreText_c b1 b2 b3 _ _ _ vs fs rs p1 p2 p3 _ _ _ is bs js _ (R1.call hb2).1 (R2.call hb2).1 (R3.call hb2).1 (unhide HZ) R4.1 R5.1 R6.mats (unhide HII) (unhide HIJ)).mono ?_; rw [← unhide HVV]; rintro e w3 ⟨rfl, hb3⟩; have hq3 := H6.call hb3 hq2))
  have HT := hide hq3.2.2.2.2.2.2.1
  have HU := hide hq3.2.2.2.2.2.2.2.1
  have HK := hide ((unhide HK).trans (hq3.below.mono (unhide HK).size))
  clear hh hq hq2 hq3 R1 R2 R3 R4 R5 R6 hb hb2 hb3
  rename_i hHeld
  clear hHeld
  have t0 := (unhide HT).1
  have t1 := (unhide HT).2.1
  have t2 := (unhide HT).2.2.1
  go_wp2_with fail
  refine (toDecl_c va fa ra vc fc rc vs fs rs _ ((unhide SV).call (unhide HK)) ((unhide SF).call (unhide HK)) ((unhide SR).call (unhide HK))).mono ?_
  rintro e u4 ⟨b1, b2, b3, rfl, R1, R2, R3, _, kb⟩
  have HT := hide ((unhide HT).call kb)
  have HU := hide ((unhide HU).call kb)
  have HK := hide ((unhide HK).trans (kb.mono (unhide HK).size))
  have HR1 := hide R1
  have HR2 := hide R2
  have HR3 := hide R3
  clear kb R1 R2 R3 t0 t1 t2
  have ka := (Below.refl _ u4).alloc (Nat.le_refl _) (Obj.cells #[.slice (some ⟨b1, 0, none⟩) vs.length vs.length, .slice (some ⟨b2, 0, none⟩) fs.length fs.length, .slice (some ⟨b3, 0, none⟩) rs.length rs.length] 34)
  have HA := hide (C3.new u4 (.slice (some ⟨b1, 0, none⟩) vs.length vs.length) (.slice (some ⟨b2, 0, none⟩) fs.length fs.length) (.slice (some ⟨b3, 0, none⟩) rs.length rs.length) 34)
  have HT := hide ((unhide HT).call ka)
  have HU := hide ((unhide HU).call ka)
  have HR1 := hide ((unhide HR1).call ka)
  have HR2 := hide ((unhide HR2).call ka)
  have HR3 := hide ((unhide HR3).call ka)
  have HK := hide ((unhide HK).trans (ka.mono (unhide HK).size))
  have t0 := (unhide HU).1
  have t1 := (unhide HU).2.1
  have t2 := (unhide HU).2.2.1
  clear ka
  go_wp2_with fail
  generalize u4.alloc (Obj.cells #[.slice (some ⟨b1, 0, none⟩) vs.length vs.length, .slice (some ⟨b2, 0, none⟩) fs.length fs.length, .slice (some ⟨b3, 0, none⟩) rs.length rs.length] 34) = u5 at HA HT HU HR1 HR2 HR3 HK t0 t1 t2 ⊢
  obtain ⟨X, hX⟩ : ∃ X, X = u4.heap.size := ⟨_, rfl⟩
  rw [← hX] at HA ⊢
  clear hX
  refine (toStore_c ia ba ja ic bc jc is bs js _ ((unhide SX).call (unhide HK)) ((unhide SY).call (unhide HK)) ((unhide SJ).call (unhide HK))).mono ?_
  rintro e u6 ⟨p1, p2, p3, rfl, R4, R5, R6, _, kb⟩
  have HT := hide ((unhide HT).call kb)
  have HU := hide ((unhide HU).call kb)
  have HA := hide ((unhide HA).call kb)
  have HR1 := hide ((unhide HR1).call kb)
  have HR2 := hide ((unhide HR2).call kb)
  have HR3 := hide ((unhide HR3).call kb)
  have HA6 := HA
  have HK := hide ((unhide HK).trans (kb.mono (unhide HK).size))
  have HR4 := hide R4
  have HR5 := hide R5
  have HR6 := hide R6
  clear kb R4 R5 R6 t0 t1 t2
  have ka := (Below.refl _ u6).alloc (Nat.le_refl _) (Obj.cells #[.slice (some ⟨p1, 0, none⟩) is.length is.length, .slice (some ⟨p2, 0, none⟩) bs.length bs.length, .slice (some ⟨p3, 0, none⟩) js.length js.length] 50)
  have HB := hide (C3.new u6 (.slice (some ⟨p1, 0, none⟩) is.length is.length) (.slice (some ⟨p2, 0, none⟩) bs.length bs.length) (.slice (some ⟨p3, 0, none⟩) js.length js.length) 50)
  have kb := ka
  have HT := hide ((unhide HT).call kb)
  have HU := hide ((unhide HU).call kb)
  have HA := hide ((unhide HA).call kb)
  have HR1 := hide ((unhide HR1).call kb)
  have HR2 := hide ((unhide HR2).call kb)
  have HR3 := hide ((unhide HR3).call kb)
  have HR4 := hide ((unhide HR4).call kb)
  have HR5 := hide ((unhide HR5).call kb)
  have HR6 := hide ((unhide HR6).call kb)
  have HK := hide ((unhide HK).trans (kb.mono (unhide HK).size))
  have t0 := (unhide HA).1
  have t1 := (unhide HA).2.1
  have t2 := (unhide HA).2.2.1
  have lX : X < u6.heap.size := Nat.lt_of_lt_of_le (unhide HA6).lt (Nat.le_refl _)
  clear ka kb
  go_wp2_with fail
  generalize u6.alloc (Obj.cells #[.slice (some ⟨p1, 0, none⟩) is.length is.length, .slice (some ⟨p2, 0, none⟩) bs.length bs.length, .slice (some ⟨p3, 0, none⟩) js.length js.length] 50) = u7 at HA HB HT HU HR1 HR2 HR3 HR4 HR5 HR6 HK t0 t1 t2 ⊢
  obtain ⟨Y, hY⟩ : ∃ Y, Y = u6.heap.size := ⟨_, rfl⟩
  rw [← hY] at HB lX ⊢
  clear hY t0 t1 t2
  refine (iStoreText_c b1 b2 b3 _ _ _ vs fs rs p1 p2 p3 _ _ _ is bs js _ ((unhide HW).call (unhide HK)) ((unhide HPP).call (unhide HK)) (unhide HR1).1 (unhide HR2).1 (unhide HR3).1 (unhide HZ) (unhide HR4).1 (unhide HR5).1 (unhide HR6).mats (unhide HII) (unhide HIJ)).mono ?_
  rw [← unhide HVV]
  rintro e u8 ⟨rfl, kb⟩
  have HT := hide ((unhide HT).call kb)
  have HU := hide ((unhide HU).call kb)
  have HA := hide ((unhide HA).call kb)
  have HB := hide ((unhide HB).call kb)
  have HR1 := hide ((unhide HR1).call kb)
  have HR2 := hide ((unhide HR2).call kb)
  have HR3 := hide ((unhide HR3).call kb)
  have HR4 := hide ((unhide HR4).call kb)
  have HR5 := hide ((unhide HR5).call kb)
  have HR6 := hide ((unhide HR6).call kb)
  have HK := hide ((unhide HK).trans (kb.mono (unhide HK).size))
  clear kb
  have hh := H6.of (unhide HA) (unhide HT) (Below.refl _ u8)
  go_wp2
  go_region_held3 (H6 u8 X w.heap.size (.slice (some ⟨b1, 0, none⟩) vs.length vs.length) (.slice (some ⟨b2, 0, none⟩) fs.length fs.length) (.slice (some ⟨b3, 0, none⟩) rs.length rs.length) (.slice va vs.length vc) (.slice fa fs.length fc) (.slice ra rs.length rc))
    (first | exact H6.drew (by assumption) | exact hq | exact hq2)
    (first
      | (go_at_call 8; refine (toDecl_c va fa ra vc fc rc vs fs rs _ (((unhide SV).call (unhide HK)).call hh.drew.below) (((unhide SF).call (unhide HK)).call hh.drew.below) (((unhide SR).call (unhide HK)).call hh.drew.below)).mono ?_; rintro e w1 ⟨q1, q2, q3, rfl, R1, R2, R3, _, hb⟩; have hq := H6.call hb hh.drew)
      | (go_at_call 11; refine (eqDecl_c _ _ _ _ _ _ _ _ _ _ _ _ vs fs rs _ ((unhide HR1).call hq.below).1 ((unhide HR2).call hq.below).1 ((unhide HR3).call hq.below).1 R1.1 R2.1 R3.1).mono ?_; rintro e w2 ⟨rfl, hb2⟩; have hq2 := H6.call hb2 hq))
  have kb := hq2.below
  have HT := hide ((unhide HT).call kb)
  have HU := hide ((unhide HU).call kb)
  have HA := hide ((unhide HA).call kb)
  have HB := hide ((unhide HB).call kb)
  have HR1 := hide ((unhide HR1).call kb)
  have HR2 := hide ((unhide HR2).call kb)
  have HR3 := hide ((unhide HR3).call kb)
  have HR4 := hide ((unhide HR4).call kb)
  have HR5 := hide ((unhide HR5).call kb)
  have HR6 := hide ((unhide HR6).call kb)
  have HK := hide ((unhide HK).trans (kb.mono (unhide HK).size))
  clear hq hq2 hh hb hb2 R1 R2 R3 kb
  rename_i hHeld
  clear hHeld
  have hh := H6.of (unhide HB) (unhide HU) (Below.refl _ w2)
  go_wp2
  go_region_held3 (H6 w2 Y (w.heap.size + 1) (.slice (some ⟨p1, 0, none⟩) is.length is.length) (.slice (some ⟨p2, 0, none⟩) bs.length bs.length) (.slice (some ⟨p3, 0, none⟩) js.length js.length) (.slice ia is.length ic) (.slice ba bs.length bc) (.slice ja js.length jc))
    (first | exact H6.drew (by assumption) | exact hq | exact hq2)
    (first
      | (go_at_call 15; refine (toStore_c ia ba ja ic bc jc is bs js _ (((unhide SX).call (unhide HK)).call hh.drew.below) (((unhide SY).call (unhide HK)).call hh.drew.below) (((unhide SJ).call (unhide HK)).call hh.drew.below)).mono ?_; rintro e w1 ⟨q1, q2, q3, rfl, R4, R5, R6, _, hb⟩; have hq := H6.call hb hh.drew)
      | (go_at_call 17; refine (eqStore_c _ _ _ _ _ _ _ _ _ _ _ _ is bs js _ ((unhide HR4).call hq.below).1 ((unhide HR5).call hq.below).1 ((unhide HR6).call hq.below).mats R4.1 R5.1 R6.mats).mono ?_; rintro e w3 ⟨rfl, hb2⟩; have hq2 := H6.call hb2 hq))
  have HK := hide ((unhide HK).trans (hq2.below.mono (unhide HK).size))
  clear hq hq2 hh hb hb2 R4 R5 R6
  rename_i hHeld
  clear hHeld
  go_wp2
  go_ret
  exact ⟨rfl, unhide HK⟩
end Go.Proofs.YtcceeejmppamdaaDoor
