/- Stores: the laws' copies of them. -/
import Derived.Test.YtcceeejmppamdaaDoorStoE
namespace Go.Proofs.YtcceeejmppamdaaDoor
open Go.RowKit
set_option linter.unusedSimpArgs false

set_option maxHeartbeats 2000000 in
theorem toStore_c (ia ba ja : Option Addr) (ic bc jc : Nat) (is : List Int) (bs : List Bool) (js : List (List Int)) (w : World) (hi : Ints w ia is) (hb : Bools w ba bs) (hj : Mats w ja js) :
    Calls Tryd.prog 15 #[.agg #[.slice ia is.length ic, .slice ba bs.length bc, .slice ja js.length jc]] w fun e w' => ∃ b1 b2 b3, e = .returned (.agg #[.slice (some ⟨b1, 0, none⟩) is.length is.length, .slice (some ⟨b2, 0, none⟩) bs.length bs.length, .slice (some ⟨b3, 0, none⟩) js.length js.length]) ∧ OwnI w' b1 is ∧ OwnB w' b2 bs ∧ OwnJ w' b3 js ∧ (w.heap.size ≤ b1 ∧ b1 < b2 ∧ b2 < b3) ∧ Below w.heap.size w w' := by
  have Xhi := hide hi
  have Xhb := hide hb
  have Xhj := hide hj
  have T0 := ((C3.new w (.slice ia is.length ic) (.slice ba bs.length bc) (.slice ja js.length jc) 47).alloc (Obj.cells #[.slice none 0 0, .slice none 0 0, .slice none 0 0] 50)).alloc (Obj.cells #[.slice none 0 0, .slice none 0 0, .slice none 0 0] 50)
  have T1 := (C3.new (w.alloc (Obj.cells #[.slice ia is.length ic, .slice ba bs.length bc, .slice ja js.length jc] 47)) (.slice none 0 0) (.slice none 0 0) (.slice none 0 0) 50).alloc (Obj.cells #[.slice none 0 0, .slice none 0 0, .slice none 0 0] 50)
  have T2 := C3.new ((w.alloc (Obj.cells #[.slice ia is.length ic, .slice ba bs.length bc, .slice ja js.length jc] 47)).alloc (Obj.cells #[.slice none 0 0, .slice none 0 0, .slice none 0 0] 50)) (.slice none 0 0) (.slice none 0 0) (.slice none 0 0) 50
  have K0 : Below w.heap.size w (((w.alloc (Obj.cells #[.slice ia is.length ic, .slice ba bs.length bc, .slice ja js.length jc] 47)).alloc (Obj.cells #[.slice none 0 0, .slice none 0 0, .slice none 0 0] 50)).alloc (Obj.cells #[.slice none 0 0, .slice none 0 0, .slice none 0 0] 50)) := ((Below.refl _ _).alloc (Nat.le_refl _) _).alloc (by simp) _ |>.alloc (by simp; omega) _
  rw [show (w.alloc (Obj.cells #[.slice ia is.length ic, .slice ba bs.length bc, .slice ja js.length jc] 47)).heap.size = w.heap.size + 1 by simp] at T1
  rw [show ((w.alloc (Obj.cells #[.slice ia is.length ic, .slice ba bs.length bc, .slice ja js.length jc] 47)).alloc (Obj.cells #[.slice none 0 0, .slice none 0 0, .slice none 0 0] 50)).heap.size = w.heap.size + 2 by simp] at T2
  have HT0 := hide T0
  have HT1 := hide T1
  have HT2 := hide T2
  have HK := hide K0
  clear T0 T1 T2 K0 hi hb hj
  go_enter Tryd.func15, Tryd.ntmps15
  go_wp2_with fail
  generalize ((w.alloc (Obj.cells #[.slice ia is.length ic, .slice ba bs.length bc, .slice ja js.length jc] 47)).alloc (Obj.cells #[.slice none 0 0, .slice none 0 0, .slice none 0 0] 50)).alloc (Obj.cells #[.slice none 0 0, .slice none 0 0, .slice none 0 0] 50) = u0 at HT0 HT1 HT2 HK ⊢
  refine (toInt64S_c _ _ is _ ((unhide Xhi).call (unhide HK))).mono ?_
  rintro e u1 ⟨rfl, R1, kb⟩
  have lu1 := hide (unhide HT2).lt
  have HT0 := hide ((unhide HT0).call kb)
  have HT1 := hide ((unhide HT1).call kb)
  have HT2 := hide ((unhide HT2).call kb)
  have HK := hide ((unhide HK).trans (kb.mono (unhide HK).size))
  have HR1 := hide R1
  clear R1 kb
  obtain ⟨b1, hb1⟩ : ∃ b, b = u0.heap.size := ⟨_, rfl⟩
  rw [← hb1] at HR1 ⊢
  have lw1 : w.heap.size + 2 < b1 := by rw [hb1]; exact unhide lu1
  clear hb1 lu1
  have d := (unhide HT2).1
  have f := (unhide HT2).2.2.2 0
  have c := (unhide HT0).2.1
  go_wp2_with fail
  clear c d f
  have HT0 := hide ((unhide HT0).other (c := w.heap.size + 2) (o := 0) (v := .slice (some ⟨b1, 0, none⟩) is.length is.length) (by omega))
  have HT1 := hide ((unhide HT1).other (c := w.heap.size + 2) (o := 0) (v := .slice (some ⟨b1, 0, none⟩) is.length is.length) (by omega))
  have HT2 := hide ((unhide HT2).set0 (.slice (some ⟨b1, 0, none⟩) is.length is.length))
  have HR1 := hide ((unhide HR1).set (c := w.heap.size + 2) (p := 0) (v := .slice (some ⟨b1, 0, none⟩) is.length is.length) (by omega))
  have HK := hide ((unhide HK).setCell (p := ⟨w.heap.size + 2, 0, none⟩) (by show w.heap.size ≤ w.heap.size + 2; omega) (.slice (some ⟨b1, 0, none⟩) is.length is.length))
  generalize u1.setCell ⟨w.heap.size + 2, 0, none⟩ (.slice (some ⟨b1, 0, none⟩) is.length is.length) = u2 at HT0 HT1 HT2 HK HR1 ⊢
  have HR1_ := HR1
  refine (toBoolS_c _ _ bs _ ((unhide Xhb).call (unhide HK))).mono ?_
  rintro e u3 ⟨rfl, R2, kb⟩
  have lu2 := hide (unhide HT2).lt
  have HR1 := hide ((unhide HR1).call kb)
  have HT0 := hide ((unhide HT0).call kb)
  have HT1 := hide ((unhide HT1).call kb)
  have HT2 := hide ((unhide HT2).call kb)
  have HK := hide ((unhide HK).trans (kb.mono (unhide HK).size))
  have HR2 := hide R2
  clear R2 kb
  have lt2 := hide (show b1 < u2.heap.size from (unhide HR1_).2.2)
  obtain ⟨b2, hb2⟩ : ∃ b, b = u2.heap.size := ⟨_, rfl⟩
  rw [← hb2] at HR2 ⊢
  have lw2 : w.heap.size + 2 < b2 := by rw [hb2]; exact unhide lu2
  have lb2 : b1 < b2 := by rw [hb2]; exact unhide lt2
  clear lt2
  clear hb2 lu2
  have d := (unhide HT2).2.1
  have f := (unhide HT2).2.2.2 1
  have c := (unhide HT0).2.2.1
  go_wp2_with fail
  clear c d f
  have HT0 := hide ((unhide HT0).other (c := w.heap.size + 2) (o := 1) (v := .slice (some ⟨b2, 0, none⟩) bs.length bs.length) (by omega))
  have HT1 := hide ((unhide HT1).other (c := w.heap.size + 2) (o := 1) (v := .slice (some ⟨b2, 0, none⟩) bs.length bs.length) (by omega))
  have HT2 := hide ((unhide HT2).set1 (.slice (some ⟨b2, 0, none⟩) bs.length bs.length))
  have HR1 := hide ((unhide HR1).set (c := w.heap.size + 2) (p := 1) (v := .slice (some ⟨b2, 0, none⟩) bs.length bs.length) (by omega))
  have HR2 := hide ((unhide HR2).set (c := w.heap.size + 2) (p := 1) (v := .slice (some ⟨b2, 0, none⟩) bs.length bs.length) (by omega))
  have HK := hide ((unhide HK).setCell (p := ⟨w.heap.size + 2, 1, none⟩) (by show w.heap.size ≤ w.heap.size + 2; omega) (.slice (some ⟨b2, 0, none⟩) bs.length bs.length))
  generalize u3.setCell ⟨w.heap.size + 2, 1, none⟩ (.slice (some ⟨b2, 0, none⟩) bs.length bs.length) = u4 at HT0 HT1 HT2 HK HR1 HR2 ⊢
  have HR2_ := HR2
  refine (toInt64SS_c _ _ js _ ((unhide Xhj).call (unhide HK))).mono ?_
  rintro e u5 ⟨rfl, R3, kb⟩
  have lu3 := hide (unhide HT2).lt
  have HR1 := hide ((unhide HR1).call kb)
  have HR2 := hide ((unhide HR2).call kb)
  have HT0 := hide ((unhide HT0).call kb)
  have HT1 := hide ((unhide HT1).call kb)
  have HT2 := hide ((unhide HT2).call kb)
  have HK := hide ((unhide HK).trans (kb.mono (unhide HK).size))
  have HR3 := hide R3
  clear R3 kb
  have lt3 := hide (show b2 < u4.heap.size from (unhide HR2_).2.2)
  obtain ⟨b3, hb3⟩ : ∃ b, b = u4.heap.size := ⟨_, rfl⟩
  rw [← hb3] at HR3 ⊢
  have lw3 : w.heap.size + 2 < b3 := by rw [hb3]; exact unhide lu3
  have lb3 : b2 < b3 := by rw [hb3]; exact unhide lt3
  clear lt3
  clear hb3 lu3
  have d := (unhide HT2).2.2.1
  have f := (unhide HT2).2.2.2 2
  have d0 := (unhide HT2).1
  have d1 := (unhide HT2).2.1
  have d2 := (unhide HT2).2.2.1
  have e0 := (unhide HT1).1
  have e1 := (unhide HT1).2.1
  have e2 := (unhide HT1).2.2.1
  have f0 := (unhide HT1).2.2.2 0
  have f1 := (unhide HT1).2.2.2 1
  have f2 := (unhide HT1).2.2.2 2
  clear d
  go_wp2_with fail
  clear f d0 d1 d2 e0 e1 e2 f0 f1 f2
  have HT1 := hide (((((unhide HT1).other (c := w.heap.size + 1 + 1) (o := 2) (v := .slice (some ⟨b3, 0, none⟩) js.length js.length) (by omega)).set0 (.slice (some ⟨b1, 0, none⟩) is.length is.length)).set1 (.slice (some ⟨b2, 0, none⟩) bs.length bs.length)).set2 (.slice (some ⟨b3, 0, none⟩) js.length js.length))
  have HR1 := hide (((((unhide HR1).set (c := w.heap.size + 1 + 1) (p := 2) (v := .slice (some ⟨b3, 0, none⟩) js.length js.length) (by omega)).set (c := w.heap.size + 1) (p := 0) (v := .slice (some ⟨b1, 0, none⟩) is.length is.length) (by omega)).set (c := w.heap.size + 1) (p := 1) (v := .slice (some ⟨b2, 0, none⟩) bs.length bs.length) (by omega)).set (c := w.heap.size + 1) (p := 2) (v := .slice (some ⟨b3, 0, none⟩) js.length js.length) (by omega))
  have HR2 := hide (((((unhide HR2).set (c := w.heap.size + 1 + 1) (p := 2) (v := .slice (some ⟨b3, 0, none⟩) js.length js.length) (by omega)).set (c := w.heap.size + 1) (p := 0) (v := .slice (some ⟨b1, 0, none⟩) is.length is.length) (by omega)).set (c := w.heap.size + 1) (p := 1) (v := .slice (some ⟨b2, 0, none⟩) bs.length bs.length) (by omega)).set (c := w.heap.size + 1) (p := 2) (v := .slice (some ⟨b3, 0, none⟩) js.length js.length) (by omega))
  have HR3 := hide (((((unhide HR3).set (c := w.heap.size + 1 + 1) (p := 2) (v := .slice (some ⟨b3, 0, none⟩) js.length js.length) (by omega)).set (c := w.heap.size + 1) (p := 0) (v := .slice (some ⟨b1, 0, none⟩) is.length is.length) (by omega)).set (c := w.heap.size + 1) (p := 1) (v := .slice (some ⟨b2, 0, none⟩) bs.length bs.length) (by omega)).set (c := w.heap.size + 1) (p := 2) (v := .slice (some ⟨b3, 0, none⟩) js.length js.length) (by omega))
  have HK := hide (((((unhide HK).setCell (p := ⟨w.heap.size + 1 + 1, 2, none⟩) (by show w.heap.size ≤ w.heap.size + 1 + 1; omega) (.slice (some ⟨b3, 0, none⟩) js.length js.length)).setCell (p := ⟨w.heap.size + 1, 0, none⟩) (by show w.heap.size ≤ w.heap.size + 1; omega) (.slice (some ⟨b1, 0, none⟩) is.length is.length)).setCell (p := ⟨w.heap.size + 1, 1, none⟩) (by show w.heap.size ≤ w.heap.size + 1; omega) (.slice (some ⟨b2, 0, none⟩) bs.length bs.length)).setCell (p := ⟨w.heap.size + 1, 2, none⟩) (by show w.heap.size ≤ w.heap.size + 1; omega) (.slice (some ⟨b3, 0, none⟩) js.length js.length))
  generalize (((u5.setCell ⟨w.heap.size + 1 + 1, 2, none⟩ (.slice (some ⟨b3, 0, none⟩) js.length js.length)).setCell ⟨w.heap.size + 1, 0, none⟩ (.slice (some ⟨b1, 0, none⟩) is.length is.length)).setCell ⟨w.heap.size + 1, 1, none⟩ (.slice (some ⟨b2, 0, none⟩) bs.length bs.length)).setCell ⟨w.heap.size + 1, 2, none⟩ (.slice (some ⟨b3, 0, none⟩) js.length js.length) = z at HT1 HK HR1 HR2 HR3 ⊢
  have g0 := (unhide HT1).1
  have g1 := (unhide HT1).2.1
  have g2 := (unhide HT1).2.2.1
  exact bodyPost_ret (v := .agg #[.slice (some ⟨b1, 0, none⟩) is.length is.length, .slice (some ⟨b2, 0, none⟩) bs.length bs.length, .slice (some ⟨b3, 0, none⟩) js.length js.length]) (by simp [results, Tryd.results15, go_sem, g0, g1, g2]) rfl ⟨b1, b2, b3, rfl, unhide HR1, unhide HR2, unhide HR3, ⟨by omega, by omega, by omega⟩, unhide HK⟩
set_option maxHeartbeats 2000000 in
theorem eqStore_c (va fa ra va' fa' ra' : Option Addr) (vc fc rc vc' fc' rc' : Nat) (vs : List Int) (fs : List Bool) (rs : List (List Int)) (w : World) (hv : Ints w va vs) (hf : Bools w fa fs) (hr : Mats w ra rs) (hv' : Ints w va' vs) (hf' : Bools w fa' fs) (hr' : Mats w ra' rs) :
    Calls Tryd.prog 17 #[.agg #[.slice va vs.length vc, .slice fa fs.length fc, .slice ra rs.length rc], .agg #[.slice va' vs.length vc', .slice fa' fs.length fc', .slice ra' rs.length rc']] w fun e w' => e = .returned (.bool true) ∧ Below w.heap.size w w' := by
  have X1 := hide hv
  have X2 := hide hf
  have X3 := hide hr
  have X4 := hide hv'
  have X5 := hide hf'
  have X6 := hide hr'
  have T0 := (C3.new w (.slice va vs.length vc) (.slice fa fs.length fc) (.slice ra rs.length rc) 50).alloc (Obj.cells #[.slice va' vs.length vc', .slice fa' fs.length fc', .slice ra' rs.length rc'] 50)
  have T1 := C3.new (w.alloc (Obj.cells #[.slice va vs.length vc, .slice fa fs.length fc, .slice ra rs.length rc] 50)) (.slice va' vs.length vc') (.slice fa' fs.length fc') (.slice ra' rs.length rc') 50
  have K0 : Below w.heap.size w ((w.alloc (Obj.cells #[.slice va vs.length vc, .slice fa fs.length fc, .slice ra rs.length rc] 50)).alloc (Obj.cells #[.slice va' vs.length vc', .slice fa' fs.length fc', .slice ra' rs.length rc'] 50)) := ((Below.refl _ _).alloc (Nat.le_refl _) _).alloc (by simp) _
  rw [show (w.alloc (Obj.cells #[.slice va vs.length vc, .slice fa fs.length fc, .slice ra rs.length rc] 50)).heap.size = w.heap.size + 1 by simp] at T1
  have HT0 := hide T0
  have HT1 := hide T1
  have HK := hide K0
  clear T0 T1 K0 hv hf hr hv' hf' hr'
  go_enter Tryd.func17, Tryd.ntmps17
  go_wp2_with fail
  generalize (w.alloc (Obj.cells #[.slice va vs.length vc, .slice fa fs.length fc, .slice ra rs.length rc] 50)).alloc (Obj.cells #[.slice va' vs.length vc', .slice fa' fs.length fc', .slice ra' rs.length rc'] 50) = u at HT0 HT1 HK ⊢
  refine (eqInt64S_c _ _ _ _ vs _ ((unhide X1).call (unhide HK)) ((unhide X4).call (unhide HK))).mono ?_
  rintro e u1 ⟨rfl, m, rfl⟩
  have kb := bdrew u m
  have HT0 := hide ((unhide HT0).call kb)
  have HT1 := hide ((unhide HT1).call kb)
  have HK := hide ((unhide HK).trans (kb.mono (unhide HK).size))
  clear kb
  generalize u.drewN m = u1 at HT0 HT1 HK ⊢
  have c := (unhide HT0).2.1
  have d := (unhide HT1).2.1
  go_wp2_with fail
  clear c d
  refine (eqBoolS_c _ _ _ _ fs _ ((unhide X2).call (unhide HK)) ((unhide X5).call (unhide HK))).mono ?_
  rintro e u2 ⟨rfl, m2, rfl⟩
  have kb := bdrew u1 m2
  have HT0 := hide ((unhide HT0).call kb)
  have HT1 := hide ((unhide HT1).call kb)
  have HK := hide ((unhide HK).trans (kb.mono (unhide HK).size))
  clear kb
  generalize u1.drewN m2 = u2 at HT0 HT1 HK ⊢
  have c := (unhide HT0).2.2.1
  have d := (unhide HT1).2.2.1
  go_wp2_with fail
  clear c d
  refine (eqInt64SS_c _ _ _ _ rs _ ((unhide X3).call (unhide HK)) ((unhide X6).call (unhide HK))).mono ?_
  rintro e u3 ⟨rfl, kb⟩
  have HK := hide ((unhide HK).trans (kb.mono (unhide HK).size))
  clear kb
  go_wp2
  go_ret
  exact ⟨rfl, unhide HK⟩
end Go.Proofs.YtcceeejmppamdaaDoor
