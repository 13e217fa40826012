/- Bounds: the laws' copies of them. -/
import Derived.Test.YthldhjifnpfmiaaGreatDoorIvsC
import Derived.Test.YthldhjifnpfmiaaGreatDoorDeclC
namespace Go.Proofs.YthldhjifnpfmiaaGreatDoor
open Go.RowKit
set_option linter.unusedSimpArgs false

def szE (m n : Nat) (l : Int) : Int := if sz1 m l < 0 then -1 else sz1 n (sz1 m l)
theorem szE_le (m n : Nat) (l : Int) (h : 0 ≤ l) : szE m n l ≤ l ∧ -1 ≤ szE m n l ∧ (0 ≤ szE m n l → (m : Int) ≤ l ∧ (n : Int) ≤ l) := by
  unfold szE
  have h1 := sz1_le m l h
  split
  · omega
  · have h2 := sz1_le n (sz1 m l) (by omega)
    refine ⟨by omega, by omega, fun k => ⟨h1.2.2 (by omega), ?_⟩⟩
    have := h2.2.2 k
    omega
set_option maxHeartbeats 1000000 in
theorem szEnv_c (li : Bool) (xa ya : Option Addr) (xc yc m n : Nat) (left : Int) (h0 : 0 ≤ left) (h1 : left ≤ 1048576) (w : World) (hm : m ≤ 9223372036854775807) (hn : n ≤ 9223372036854775807) :
    Calls Tryz.prog 70 #[.agg #[.bool li, .slice xa m xc, .slice ya n yc], .int .i64 left] w fun e w' => e = .returned (.int .i64 (szE m n left)) ∧ Below w.heap.size w w' := by
  have q1 := sz1_le m left h0
  have HB := hide ((Below.refl _ w).alloc (Nat.le_refl _) (Obj.cells #[.bool li, .slice xa m xc, .slice ya n yc] 122))
  go_enter Tryz.func70, Tryz.ntmps70
  go_wp2_with fail
  refine (szIntervalS_c _ m _ _ hm h0 h1 _).mono ?_
  rintro e w1 ⟨rfl, rfl⟩
  have HZ := hide (show szE m n left = if sz1 m left < 0 then -1 else sz1 n (sz1 m left) from rfl)
  generalize sz1 m left = l1 at q1 HZ
  by_cases n1 : l1 < 0
  · have HE := hide (show szE m n left = -1 by rw [unhide HZ, if_pos n1])
    go_wp2
    go_ret
    exact ⟨by rw [unhide HE]; rfl, unhide HB⟩
  have m1 : 0 ≤ l1 := by omega
  have q2 := sz1_le n l1 m1
  go_wp2_with fail
  refine (szIntervalS_c _ n _ _ hn m1 (by omega) _).mono ?_
  rintro e w1 ⟨rfl, rfl⟩
  have HZ2 := hide (show szE m n left = sz1 n l1 by rw [unhide HZ, if_neg (by omega)])
  clear HZ
  generalize sz1 n l1 = l2 at q2 HZ2
  by_cases n2 : l2 < 0
  · have HE := hide (show szE m n left = -1 by rw [unhide HZ2]; omega)
    go_wp2
    go_ret
    exact ⟨by rw [unhide HE]; rfl, unhide HB⟩
  · go_wp2
    go_ret
    exact ⟨by rw [unhide HZ2]; rfl, unhide HB⟩
set_option maxHeartbeats 2000000 in
theorem toEnv_c (li : Bool) (xa ya : Option Addr) (xc yc : Nat) (xs ys : List (Int × Int)) (w : World) (hx : Ivs w xa xs) (hy : Ivs w ya ys) :
    Calls Tryz.prog 75 #[.agg #[.bool li, .slice xa xs.length xc, .slice ya ys.length yc]] w fun e w' => ∃ b1 b2, e = .returned (.agg #[.bool li, .slice (some ⟨b1, 0, none⟩) xs.length xs.length, .slice (some ⟨b2, 0, none⟩) ys.length ys.length]) ∧ OwnV w' b1 xs ∧ OwnV w' b2 ys ∧ (w.heap.size ≤ b1 ∧ b1 < b2) ∧ Below w.heap.size w w' := by
  have Xhx := hide hx
  have Xhy := hide hy
  have T0 := ((C3.new w (.bool li) (.slice xa xs.length xc) (.slice ya ys.length yc) 122).alloc (Obj.cells #[.bool false, .slice none 0 0, .slice none 0 0] 69)).alloc (Obj.cells #[.bool li, .slice none 0 0, .slice none 0 0] 69)
  have T1 := (C3.new (w.alloc (Obj.cells #[.bool li, .slice xa xs.length xc, .slice ya ys.length yc] 122)) (.bool false) (.slice none 0 0) (.slice none 0 0) 69).alloc (Obj.cells #[.bool li, .slice none 0 0, .slice none 0 0] 69)
  have T2 := C3.new ((w.alloc (Obj.cells #[.bool li, .slice xa xs.length xc, .slice ya ys.length yc] 122)).alloc (Obj.cells #[.bool false, .slice none 0 0, .slice none 0 0] 69)) (.bool li) (.slice none 0 0) (.slice none 0 0) 69
  have K0 : Below w.heap.size w (((w.alloc (Obj.cells #[.bool li, .slice xa xs.length xc, .slice ya ys.length yc] 122)).alloc (Obj.cells #[.bool false, .slice none 0 0, .slice none 0 0] 69)).alloc (Obj.cells #[.bool li, .slice none 0 0, .slice none 0 0] 69)) := ((Below.refl _ _).alloc (Nat.le_refl _) _).alloc (by simp) _ |>.alloc (by simp; omega) _
  rw [show (w.alloc (Obj.cells #[.bool li, .slice xa xs.length xc, .slice ya ys.length yc] 122)).heap.size = w.heap.size + 1 by simp] at T1
  rw [show ((w.alloc (Obj.cells #[.bool li, .slice xa xs.length xc, .slice ya ys.length yc] 122)).alloc (Obj.cells #[.bool false, .slice none 0 0, .slice none 0 0] 69)).heap.size = w.heap.size + 2 by simp] at T2
  have HT0 := hide T0
  have HT1 := hide T1
  have HT2 := hide T2
  have HK := hide K0
  clear T0 T1 T2 K0 hx hy
  go_enter Tryz.func75, Tryz.ntmps75
  go_wp2_with fail
  generalize ((w.alloc (Obj.cells #[.bool li, .slice xa xs.length xc, .slice ya ys.length yc] 122)).alloc (Obj.cells #[.bool false, .slice none 0 0, .slice none 0 0] 69)).alloc (Obj.cells #[.bool li, .slice none 0 0, .slice none 0 0] 69) = u0 at HT0 HT1 HT2 HK ⊢
  refine (toIntervalS_c _ _ xs _ ((unhide Xhx).call (unhide HK))).mono ?_
  rintro e u1 ⟨rfl, R1, kb⟩
  have lu1 := hide (unhide HT2).lt
  have HT0 := hide ((unhide HT0).call kb)
  have HT1 := hide ((unhide HT1).call kb)
  have HT2 := hide ((unhide HT2).call kb)
  have HK := hide ((unhide HK).trans (kb.mono (unhide HK).size))
  have HR1 := hide R1
  clear R1 kb
  obtain ⟨b1, hb1⟩ : ∃ b, b = u0.heap.size := ⟨_, rfl⟩
  rw [← hb1] at HR1 ⊢
  have lw1 : w.heap.size + 2 < b1 := by rw [hb1]; exact unhide lu1
  clear hb1 lu1
  have d := (unhide HT2).2.1
  have f := (unhide HT2).2.2.2 1
  have c := (unhide HT0).2.2.1
  go_wp2_with fail
  clear c d f
  have HT0 := hide ((unhide HT0).other (c := w.heap.size + 2) (o := 1) (v := .slice (some ⟨b1, 0, none⟩) xs.length xs.length) (by omega))
  have HT1 := hide ((unhide HT1).other (c := w.heap.size + 2) (o := 1) (v := .slice (some ⟨b1, 0, none⟩) xs.length xs.length) (by omega))
  have HT2 := hide ((unhide HT2).set1 (.slice (some ⟨b1, 0, none⟩) xs.length xs.length))
  have HR1 := hide ((unhide HR1).set (c := w.heap.size + 2) (p := 1) (v := .slice (some ⟨b1, 0, none⟩) xs.length xs.length) (by omega))
  have HK := hide ((unhide HK).setCell (p := ⟨w.heap.size + 2, 1, none⟩) (by show w.heap.size ≤ w.heap.size + 2; omega) (.slice (some ⟨b1, 0, none⟩) xs.length xs.length))
  generalize u1.setCell ⟨w.heap.size + 2, 1, none⟩ (.slice (some ⟨b1, 0, none⟩) xs.length xs.length) = u2 at HT0 HT1 HT2 HK HR1 ⊢
  have HR1_ := HR1
  refine (toIntervalS_c _ _ ys _ ((unhide Xhy).call (unhide HK))).mono ?_
  rintro e u3 ⟨rfl, R2, kb⟩
  have lu2 := hide (unhide HT2).lt
  have HR1 := hide ((unhide HR1).call kb)
  have HT0 := hide ((unhide HT0).call kb)
  have HT1 := hide ((unhide HT1).call kb)
  have HT2 := hide ((unhide HT2).call kb)
  have HK := hide ((unhide HK).trans (kb.mono (unhide HK).size))
  have HR2 := hide R2
  clear R2 kb
  have lt2 := hide (show b1 < u2.heap.size from (unhide HR1_).2.2)
  obtain ⟨b2, hb2⟩ : ∃ b, b = u2.heap.size := ⟨_, rfl⟩
  rw [← hb2] at HR2 ⊢
  have lw2 : w.heap.size + 2 < b2 := by rw [hb2]; exact unhide lu2
  have lb2 : b1 < b2 := by rw [hb2]; exact unhide lt2
  clear lt2
  clear hb2 lu2
  have d := (unhide HT2).2.2.1
  have f := (unhide HT2).2.2.2 2
  have d0 := (unhide HT2).1
  have d1 := (unhide HT2).2.1
  have d2 := (unhide HT2).2.2.1
  have e0 := (unhide HT1).1
  have e1 := (unhide HT1).2.1
  have e2 := (unhide HT1).2.2.1
  have f0 := (unhide HT1).2.2.2 0
  have f1 := (unhide HT1).2.2.2 1
  have f2 := (unhide HT1).2.2.2 2
  clear d
  go_wp2_with fail
  clear f d0 d1 d2 e0 e1 e2 f0 f1 f2
  have HT1 := hide (((((unhide HT1).other (c := w.heap.size + 1 + 1) (o := 2) (v := .slice (some ⟨b2, 0, none⟩) ys.length ys.length) (by omega)).set0 (.bool li)).set1 (.slice (some ⟨b1, 0, none⟩) xs.length xs.length)).set2 (.slice (some ⟨b2, 0, none⟩) ys.length ys.length))
  have HR1 := hide (((((unhide HR1).set (c := w.heap.size + 1 + 1) (p := 2) (v := .slice (some ⟨b2, 0, none⟩) ys.length ys.length) (by omega)).set (c := w.heap.size + 1) (p := 0) (v := .bool li) (by omega)).set (c := w.heap.size + 1) (p := 1) (v := .slice (some ⟨b1, 0, none⟩) xs.length xs.length) (by omega)).set (c := w.heap.size + 1) (p := 2) (v := .slice (some ⟨b2, 0, none⟩) ys.length ys.length) (by omega))
  have HR2 := hide (((((unhide HR2).set (c := w.heap.size + 1 + 1) (p := 2) (v := .slice (some ⟨b2, 0, none⟩) ys.length ys.length) (by omega)).set (c := w.heap.size + 1) (p := 0) (v := .bool li) (by omega)).set (c := w.heap.size + 1) (p := 1) (v := .slice (some ⟨b1, 0, none⟩) xs.length xs.length) (by omega)).set (c := w.heap.size + 1) (p := 2) (v := .slice (some ⟨b2, 0, none⟩) ys.length ys.length) (by omega))
  have HK := hide (((((unhide HK).setCell (p := ⟨w.heap.size + 1 + 1, 2, none⟩) (by show w.heap.size ≤ w.heap.size + 1 + 1; omega) (.slice (some ⟨b2, 0, none⟩) ys.length ys.length)).setCell (p := ⟨w.heap.size + 1, 0, none⟩) (by show w.heap.size ≤ w.heap.size + 1; omega) (.bool li)).setCell (p := ⟨w.heap.size + 1, 1, none⟩) (by show w.heap.size ≤ w.heap.size + 1; omega) (.slice (some ⟨b1, 0, none⟩) xs.length xs.length)).setCell (p := ⟨w.heap.size + 1, 2, none⟩) (by show w.heap.size ≤ w.heap.size + 1; omega) (.slice (some ⟨b2, 0, none⟩) ys.length ys.length))
  generalize (((u3.setCell ⟨w.heap.size + 1 + 1, 2, none⟩ (.slice (some ⟨b2, 0, none⟩) ys.length ys.length)).setCell ⟨w.heap.size + 1, 0, none⟩ (.bool li)).setCell ⟨w.heap.size + 1, 1, none⟩ (.slice (some ⟨b1, 0, none⟩) xs.length xs.length)).setCell ⟨w.heap.size + 1, 2, none⟩ (.slice (some ⟨b2, 0, none⟩) ys.length ys.length) = z at HT1 HK HR1 HR2 ⊢
  have g0 := (unhide HT1).1
  have g1 := (unhide HT1).2.1
  have g2 := (unhide HT1).2.2.1
  exact bodyPost_ret (v := .agg #[.bool li, .slice (some ⟨b1, 0, none⟩) xs.length xs.length, .slice (some ⟨b2, 0, none⟩) ys.length ys.length]) (by simp [results, Tryz.results75, go_sem, g0, g1, g2]) rfl ⟨b1, b2, rfl, unhide HR1, unhide HR2, ⟨by omega, by omega⟩, unhide HK⟩
set_option maxHeartbeats 2000000 in
theorem eqEnv_c (li : Bool) (xa ya xa' ya' : Option Addr) (xc yc xc' yc' : Nat) (xs ys : List (Int × Int)) (w : World) (hx : Ivs w xa xs) (hy : Ivs w ya ys) (hx' : Ivs w xa' xs) (hy' : Ivs w ya' ys) :
    Calls Tryz.prog 87 #[.agg #[.bool li, .slice xa xs.length xc, .slice ya ys.length yc], .agg #[.bool li, .slice xa' xs.length xc', .slice ya' ys.length yc']] w fun e w' => e = .returned (.bool true) ∧ Below w.heap.size w w' := by
  have X1 := hide hx
  have X2 := hide hy
  have X4 := hide hx'
  have X5 := hide hy'
  have T0 := (C3.new w (.bool li) (.slice xa xs.length xc) (.slice ya ys.length yc) 69).alloc (Obj.cells #[.bool li, .slice xa' xs.length xc', .slice ya' ys.length yc'] 69)
  have T1 := C3.new (w.alloc (Obj.cells #[.bool li, .slice xa xs.length xc, .slice ya ys.length yc] 69)) (.bool li) (.slice xa' xs.length xc') (.slice ya' ys.length yc') 69
  have K0 : Below w.heap.size w ((w.alloc (Obj.cells #[.bool li, .slice xa xs.length xc, .slice ya ys.length yc] 69)).alloc (Obj.cells #[.bool li, .slice xa' xs.length xc', .slice ya' ys.length yc'] 69)) := ((Below.refl _ _).alloc (Nat.le_refl _) _).alloc (by simp) _
  rw [show (w.alloc (Obj.cells #[.bool li, .slice xa xs.length xc, .slice ya ys.length yc] 69)).heap.size = w.heap.size + 1 by simp] at T1
  have HT0 := hide T0
  have HT1 := hide T1
  have HK := hide K0
  clear T0 T1 K0 hx hy hx' hy'
  go_enter Tryz.func87, Tryz.ntmps87
  go_wp2_with fail
  generalize (w.alloc (Obj.cells #[.bool li, .slice xa xs.length xc, .slice ya ys.length yc] 69)).alloc (Obj.cells #[.bool li, .slice xa' xs.length xc', .slice ya' ys.length yc'] 69) = u at HT0 HT1 HK ⊢
  refine (eqIntervalS_c _ _ _ _ xs _ ((unhide X1).call (unhide HK)) ((unhide X4).call (unhide HK))).mono ?_
  rintro e u1 ⟨rfl, kb⟩
  have HT0 := hide ((unhide HT0).call kb)
  have HT1 := hide ((unhide HT1).call kb)
  have HK := hide ((unhide HK).trans (kb.mono (unhide HK).size))
  clear kb
  have c := (unhide HT0).2.2.1
  have d := (unhide HT1).2.2.1
  go_wp2_with fail
  clear c d
  refine (eqIntervalS_c _ _ _ _ ys _ ((unhide X2).call (unhide HK)) ((unhide X5).call (unhide HK))).mono ?_
  rintro e u2 ⟨rfl, kb⟩
  have HK := hide ((unhide HK).trans (kb.mono (unhide HK).size))
  clear kb
  go_wp2
  go_ret
  exact ⟨rfl, unhide HK⟩
end Go.Proofs.YthldhjifnpfmiaaGreatDoor
