/- Declarations: the laws' copies of them. -/
import Derived.Test.YthldhjifnpfmiaaGreatDoorArrD
import Derived.Test.YthldhjifnpfmiaaGreatDoorHeldD
namespace Go.Proofs.YthldhjifnpfmiaaGreatDoor
open Go.RowKit
set_option linter.unusedSimpArgs false

theorem bcl {W w1 : World} (hb : Below W.heap.size W w1) : (∀ b o, b < W.heap.size → w1.cell? ⟨b, o, none⟩ = W.cell? ⟨b, o, none⟩) ∧ (∀ b o, b < W.heap.size → w1.frozen? ⟨b, o, none⟩ = W.frozen? ⟨b, o, none⟩) :=
  ⟨fun b o h => hb.cell (p := ⟨b, o, none⟩) h, fun b o h => hb.frozen (p := ⟨b, o, none⟩) h⟩
theorem bdrew (u : World) (n : Nat) : Below u.heap.size u (u.drewN n) := ⟨rfl, rfl, rfl, Nat.le_refl _, fun _ _ => rfl⟩
/-- How much of a size is left behind a declaration. -/
def szD (vs fs : List ByteArray) (rs : List (ByteArray × Int)) (l : Int) : Int :=
  if szS vs l < 0 then -1 else if szS fs (szS vs l) < 0 then -1 else szA rs (szS fs (szS vs l))
theorem szS_le (xs : List ByteArray) (l : Int) (h : 0 ≤ l) : szS xs l ≤ l ∧ -1 ≤ szS xs l := by
  unfold szS
  split
  · omega
  · have := szL_le xs (l - xs.length) (by omega)
    omega
theorem szA_le (xs : List (ByteArray × Int)) (l : Int) (h : 0 ≤ l) : szA xs l ≤ l ∧ -1 ≤ szA xs l := szS_le _ l h
theorem szL_each (xs : List ByteArray) : ∀ l, 0 ≤ l → 0 ≤ szL xs l → ∀ x ∈ xs, (x.size : Int) ≤ l := by
  induction xs with
  | nil => intro l _ _ x hx; cases hx
  | cons y ys ih =>
    intro l h0 h x hx
    unfold szL at h
    split at h
    · omega
    · rcases List.mem_cons.1 hx with rfl | hx
      · omega
      · have := ih (l - y.size) (by omega) h x hx
        omega
theorem szS_len (xs : List ByteArray) (l : Int) (hs : 0 ≤ szS xs l) : (xs.length : Int) ≤ l ∧ ∀ x ∈ xs, (x.size : Int) ≤ l := by
  unfold szS at hs
  split at hs
  · omega
  · exact ⟨by omega, fun x hx => by have := szL_each xs (l - xs.length) (by omega) hs x hx; omega⟩
theorem Strs.ofA {w : World} {a : Option Addr} {xs : List ByteArray} (h : StrsA w a xs) (hl : (xs.length : Int) ≤ 1048576) : Strs w a xs := ⟨by omega, h.2.2⟩
theorem Arrs.ofA {w : World} {a : Option Addr} {xs : List (ByteArray × Int)} (h : ArrsA w a xs) (hl : (xs.length : Int) ≤ 1048576) : Arrs w a xs := ⟨by omega, h.2.2⟩
set_option maxHeartbeats 1000000 in
theorem szDecl_c (va fa ra : Option Addr) (vc fc rc : Nat) (vs fs : List ByteArray) (rs : List (ByteArray × Int)) (left : Int) (h0 : 0 ≤ left) (h1 : left ≤ 1048576) (w : World) (hv : StrsA w va vs) (hf : StrsA w fa fs) (hr : ArrsA w ra rs) :
    Calls Tryz.prog 4 #[.agg #[.slice va vs.length vc, .slice fa fs.length fc, .slice ra rs.length rc], .int .i64 left] w fun e w' => e = .returned (.int .i64 (szD vs fs rs left)) ∧ Below w.heap.size w w' := by
  have q1 := szS_le vs left h0
  have HF := hide hf
  have HR := hide hr
  have HB := hide ((Below.refl _ w).alloc (Nat.le_refl _) (Obj.cells #[.slice va vs.length vc, .slice fa fs.length fc, .slice ra rs.length rc] 25))
  have HV := hide (hv.call (unhide HB))
  clear hf hr hv
  go_enter Tryz.func4, Tryz.ntmps4
  go_wp2_with fail
  refine (szStringS_c _ _ vs _ h0 h1 _ (unhide HV)).mono ?_
  rintro e w1 ⟨rfl, rfl⟩
  have HZ := hide (show szD vs fs rs left = if szS vs left < 0 then -1 else if szS fs (szS vs left) < 0 then -1 else szA rs (szS fs (szS vs left)) from rfl)
  generalize szS vs left = l1 at q1 HZ
  by_cases n1 : l1 < 0
  · have HE := hide (show szD vs fs rs left = -1 by rw [unhide HZ, if_pos n1])
    go_wp2
    go_ret
    exact ⟨by rw [unhide HE]; rfl, unhide HB⟩
  have m1 : 0 ≤ l1 := by omega
  have q2 := szS_le fs l1 m1
  have HF2 := hide ((unhide HF).call (unhide HB))
  go_wp2_with fail
  refine (szStringS_c _ _ fs _ m1 (by omega) _ (unhide HF2)).mono ?_
  rintro e w1 ⟨rfl, rfl⟩
  have HZ2 := hide (show szD vs fs rs left = if szS fs l1 < 0 then -1 else szA rs (szS fs l1) by rw [unhide HZ, if_neg (by omega)])
  clear HZ
  generalize szS fs l1 = l2 at q2 HZ2
  by_cases n2 : l2 < 0
  · have HE := hide (show szD vs fs rs left = -1 by rw [unhide HZ2, if_pos n2])
    go_wp2
    go_ret
    exact ⟨by rw [unhide HE]; rfl, unhide HB⟩
  have m2 : 0 ≤ l2 := by omega
  have q3 := szA_le rs l2 m2
  have HR2 := hide ((unhide HR).call (unhide HB))
  go_wp2_with fail
  refine (szArrS_c _ _ rs _ m2 (by omega) _ (unhide HR2)).mono ?_
  rintro e w1 ⟨rfl, hb⟩
  have HB2 := hide ((unhide HB).trans (hb.mono (unhide HB).size))
  have HZ3 := hide (show szD vs fs rs left = szA rs l2 by rw [unhide HZ2, if_neg (by omega)])
  clear HZ2 hb
  generalize szA rs l2 = l3 at q3 HZ3
  by_cases n3 : l3 < 0
  · have HE := hide (show szD vs fs rs left = -1 by rw [unhide HZ3]; omega)
    go_wp2
    go_ret
    exact ⟨by rw [unhide HE]; rfl, unhide HB2⟩
  · go_wp2
    go_ret
    exact ⟨by rw [unhide HZ3]; rfl, unhide HB2⟩
set_option maxHeartbeats 2000000 in
theorem toDecl_c (va fa ra : Option Addr) (vc fc rc : Nat) (vs fs : List ByteArray) (rs : List (ByteArray × Int)) (w : World) (hv : Strs w va vs) (hf : Strs w fa fs) (hr : Arrs w ra rs) :
    Calls Tryz.prog 9 #[.agg #[.slice va vs.length vc, .slice fa fs.length fc, .slice ra rs.length rc]] w fun e w' => ∃ b1 b2 b3, e = .returned (.agg #[.slice (some ⟨b1, 0, none⟩) vs.length vs.length, .slice (some ⟨b2, 0, none⟩) fs.length fs.length, .slice (some ⟨b3, 0, none⟩) rs.length rs.length]) ∧ OwnS w' b1 vs ∧ OwnS w' b2 fs ∧ OwnA w' b3 rs ∧ (w.heap.size ≤ b1 ∧ b1 < b2 ∧ b2 < b3) ∧ Below w.heap.size w w' := by
  have Xhv := hide hv
  have Xhf := hide hf
  have Xhr := hide hr
  have T0 := ((C3.new w (.slice va vs.length vc) (.slice fa fs.length fc) (.slice ra rs.length rc) 25).alloc (Obj.cells #[.slice none 0 0, .slice none 0 0, .slice none 0 0] 40)).alloc (Obj.cells #[.slice none 0 0, .slice none 0 0, .slice none 0 0] 40)
  have T1 := (C3.new (w.alloc (Obj.cells #[.slice va vs.length vc, .slice fa fs.length fc, .slice ra rs.length rc] 25)) (.slice none 0 0) (.slice none 0 0) (.slice none 0 0) 40).alloc (Obj.cells #[.slice none 0 0, .slice none 0 0, .slice none 0 0] 40)
  have T2 := C3.new ((w.alloc (Obj.cells #[.slice va vs.length vc, .slice fa fs.length fc, .slice ra rs.length rc] 25)).alloc (Obj.cells #[.slice none 0 0, .slice none 0 0, .slice none 0 0] 40)) (.slice none 0 0) (.slice none 0 0) (.slice none 0 0) 40
  have K0 : Below w.heap.size w (((w.alloc (Obj.cells #[.slice va vs.length vc, .slice fa fs.length fc, .slice ra rs.length rc] 25)).alloc (Obj.cells #[.slice none 0 0, .slice none 0 0, .slice none 0 0] 40)).alloc (Obj.cells #[.slice none 0 0, .slice none 0 0, .slice none 0 0] 40)) := ((Below.refl _ _).alloc (Nat.le_refl _) _).alloc (by simp) _ |>.alloc (by simp; omega) _
  rw [show (w.alloc (Obj.cells #[.slice va vs.length vc, .slice fa fs.length fc, .slice ra rs.length rc] 25)).heap.size = w.heap.size + 1 by simp] at T1
  rw [show ((w.alloc (Obj.cells #[.slice va vs.length vc, .slice fa fs.length fc, .slice ra rs.length rc] 25)).alloc (Obj.cells #[.slice none 0 0, .slice none 0 0, .slice none 0 0] 40)).heap.size = w.heap.size + 2 by simp] at T2
  have HT0 := hide T0
  have HT1 := hide T1
  have HT2 := hide T2
  have HK := hide K0
  clear T0 T1 T2 K0 hv hf hr
  go_enter Tryz.func9, Tryz.ntmps9
  go_wp2_with fail
  generalize ((w.alloc (Obj.cells #[.slice va vs.length vc, .slice fa fs.length fc, .slice ra rs.length rc] 25)).alloc (Obj.cells #[.slice none 0 0, .slice none 0 0, .slice none 0 0] 40)).alloc (Obj.cells #[.slice none 0 0, .slice none 0 0, .slice none 0 0] 40) = u0 at HT0 HT1 HT2 HK ⊢
  refine (toStringS_c _ _ vs _ ((unhide Xhv).call (unhide HK))).mono ?_
  rintro e u1 ⟨rfl, R1, kb⟩
  have lu1 := hide (unhide HT2).lt
  have HT0 := hide ((unhide HT0).call kb)
  have HT1 := hide ((unhide HT1).call kb)
  have HT2 := hide ((unhide HT2).call kb)
  have HK := hide ((unhide HK).trans (kb.mono (unhide HK).size))
  have HR1 := hide R1
  clear R1 kb
  obtain ⟨b1, hb1⟩ : ∃ b, b = u0.heap.size := ⟨_, rfl⟩
  rw [← hb1] at HR1 ⊢
  have lw1 : w.heap.size + 2 < b1 := by rw [hb1]; exact unhide lu1
  clear hb1 lu1
  have d := (unhide HT2).1
  have f := (unhide HT2).2.2.2 0
  have c := (unhide HT0).2.1
  go_wp2_with fail
  clear c d f
  have HT0 := hide ((unhide HT0).other (c := w.heap.size + 2) (o := 0) (v := .slice (some ⟨b1, 0, none⟩) vs.length vs.length) (by omega))
  have HT1 := hide ((unhide HT1).other (c := w.heap.size + 2) (o := 0) (v := .slice (some ⟨b1, 0, none⟩) vs.length vs.length) (by omega))
  have HT2 := hide ((unhide HT2).set0 (.slice (some ⟨b1, 0, none⟩) vs.length vs.length))
  have HR1 := hide ((unhide HR1).set (c := w.heap.size + 2) (p := 0) (v := .slice (some ⟨b1, 0, none⟩) vs.length vs.length) (by omega))
  have HK := hide ((unhide HK).setCell (p := ⟨w.heap.size + 2, 0, none⟩) (by show w.heap.size ≤ w.heap.size + 2; omega) (.slice (some ⟨b1, 0, none⟩) vs.length vs.length))
  generalize u1.setCell ⟨w.heap.size + 2, 0, none⟩ (.slice (some ⟨b1, 0, none⟩) vs.length vs.length) = u2 at HT0 HT1 HT2 HK HR1 ⊢
  have HR1_ := HR1
  refine (toStringS_c _ _ fs _ ((unhide Xhf).call (unhide HK))).mono ?_
  rintro e u3 ⟨rfl, R2, kb⟩
  have lu2 := hide (unhide HT2).lt
  have HR1 := hide ((unhide HR1).call kb)
  have HT0 := hide ((unhide HT0).call kb)
  have HT1 := hide ((unhide HT1).call kb)
  have HT2 := hide ((unhide HT2).call kb)
  have HK := hide ((unhide HK).trans (kb.mono (unhide HK).size))
  have HR2 := hide R2
  clear R2 kb
  have lt2 := hide (show b1 < u2.heap.size from (unhide HR1_).2.2)
  obtain ⟨b2, hb2⟩ : ∃ b, b = u2.heap.size := ⟨_, rfl⟩
  rw [← hb2] at HR2 ⊢
  have lw2 : w.heap.size + 2 < b2 := by rw [hb2]; exact unhide lu2
  have lb2 : b1 < b2 := by rw [hb2]; exact unhide lt2
  clear lt2
  clear hb2 lu2
  have d := (unhide HT2).2.1
  have f := (unhide HT2).2.2.2 1
  have c := (unhide HT0).2.2.1
  go_wp2_with fail
  clear c d f
  have HT0 := hide ((unhide HT0).other (c := w.heap.size + 2) (o := 1) (v := .slice (some ⟨b2, 0, none⟩) fs.length fs.length) (by omega))
  have HT1 := hide ((unhide HT1).other (c := w.heap.size + 2) (o := 1) (v := .slice (some ⟨b2, 0, none⟩) fs.length fs.length) (by omega))
  have HT2 := hide ((unhide HT2).set1 (.slice (some ⟨b2, 0, none⟩) fs.length fs.length))
  have HR1 := hide ((unhide HR1).set (c := w.heap.size + 2) (p := 1) (v := .slice (some ⟨b2, 0, none⟩) fs.length fs.length) (by omega))
  have HR2 := hide ((unhide HR2).set (c := w.heap.size + 2) (p := 1) (v := .slice (some ⟨b2, 0, none⟩) fs.length fs.length) (by omega))
  have HK := hide ((unhide HK).setCell (p := ⟨w.heap.size + 2, 1, none⟩) (by show w.heap.size ≤ w.heap.size + 2; omega) (.slice (some ⟨b2, 0, none⟩) fs.length fs.length))
  generalize u3.setCell ⟨w.heap.size + 2, 1, none⟩ (.slice (some ⟨b2, 0, none⟩) fs.length fs.length) = u4 at HT0 HT1 HT2 HK HR1 HR2 ⊢
  have HR2_ := HR2
  refine (toArrS_c _ _ rs _ ((unhide Xhr).call (unhide HK))).mono ?_
  rintro e u5 ⟨rfl, R3, kb⟩
  have lu3 := hide (unhide HT2).lt
  have HR1 := hide ((unhide HR1).call kb)
  have HR2 := hide ((unhide HR2).call kb)
  have HT0 := hide ((unhide HT0).call kb)
  have HT1 := hide ((unhide HT1).call kb)
  have HT2 := hide ((unhide HT2).call kb)
  have HK := hide ((unhide HK).trans (kb.mono (unhide HK).size))
  have HR3 := hide R3
  clear R3 kb
  have lt3 := hide (show b2 < u4.heap.size from (unhide HR2_).2.2)
  obtain ⟨b3, hb3⟩ : ∃ b, b = u4.heap.size := ⟨_, rfl⟩
  rw [← hb3] at HR3 ⊢
  have lw3 : w.heap.size + 2 < b3 := by rw [hb3]; exact unhide lu3
  have lb3 : b2 < b3 := by rw [hb3]; exact unhide lt3
  clear lt3
  clear hb3 lu3
  have d := (unhide HT2).2.2.1
  have f := (unhide HT2).2.2.2 2
  have d0 := (unhide HT2).1
  have d1 := (unhide HT2).2.1
  have d2 := (unhide HT2).2.2.1
  have e0 := (unhide HT1).1
  have e1 := (unhide HT1).2.1
  have e2 := (unhide HT1).2.2.1
  have f0 := (unhide HT1).2.2.2 0
  have f1 := (unhide HT1).2.2.2 1
  have f2 := (unhide HT1).2.2.2 2
  clear d
  go_wp2_with fail
  clear f d0 d1 d2 e0 e1 e2 f0 f1 f2
  have HT1 := hide (((((unhide HT1).other (c := w.heap.size + 1 + 1) (o := 2) (v := .slice (some ⟨b3, 0, none⟩) rs.length rs.length) (by omega)).set0 (.slice (some ⟨b1, 0, none⟩) vs.length vs.length)).set1 (.slice (some ⟨b2, 0, none⟩) fs.length fs.length)).set2 (.slice (some ⟨b3, 0, none⟩) rs.length rs.length))
  have HR1 := hide (((((unhide HR1).set (c := w.heap.size + 1 + 1) (p := 2) (v := .slice (some ⟨b3, 0, none⟩) rs.length rs.length) (by omega)).set (c := w.heap.size + 1) (p := 0) (v := .slice (some ⟨b1, 0, none⟩) vs.length vs.length) (by omega)).set (c := w.heap.size + 1) (p := 1) (v := .slice (some ⟨b2, 0, none⟩) fs.length fs.length) (by omega)).set (c := w.heap.size + 1) (p := 2) (v := .slice (some ⟨b3, 0, none⟩) rs.length rs.length) (by omega))
  have HR2 := hide (((((unhide HR2).set (c := w.heap.size + 1 + 1) (p := 2) (v := .slice (some ⟨b3, 0, none⟩) rs.length rs.length) (by omega)).set (c := w.heap.size + 1) (p := 0) (v := .slice (some ⟨b1, 0, none⟩) vs.length vs.length) (by omega)).set (c := w.heap.size + 1) (p := 1) (v := .slice (some ⟨b2, 0, none⟩) fs.length fs.length) (by omega)).set (c := w.heap.size + 1) (p := 2) (v := .slice (some ⟨b3, 0, none⟩) rs.length rs.length) (by omega))
  have HR3 := hide (((((unhide HR3).set (c := w.heap.size + 1 + 1) (p := 2) (v := .slice (some ⟨b3, 0, none⟩) rs.length rs.length) (by omega)).set (c := w.heap.size + 1) (p := 0) (v := .slice (some ⟨b1, 0, none⟩) vs.length vs.length) (by omega)).set (c := w.heap.size + 1) (p := 1) (v := .slice (some ⟨b2, 0, none⟩) fs.length fs.length) (by omega)).set (c := w.heap.size + 1) (p := 2) (v := .slice (some ⟨b3, 0, none⟩) rs.length rs.length) (by omega))
  have HK := hide (((((unhide HK).setCell (p := ⟨w.heap.size + 1 + 1, 2, none⟩) (by show w.heap.size ≤ w.heap.size + 1 + 1; omega) (.slice (some ⟨b3, 0, none⟩) rs.length rs.length)).setCell (p := ⟨w.heap.size + 1, 0, none⟩) (by show w.heap.size ≤ w.heap.size + 1; omega) (.slice (some ⟨b1, 0, none⟩) vs.length vs.length)).setCell (p := ⟨w.heap.size + 1, 1, none⟩) (by show w.heap.size ≤ w.heap.size + 1; omega) (.slice (some ⟨b2, 0, none⟩) fs.length fs.length)).setCell (p := ⟨w.heap.size + 1, 2, none⟩) (by show w.heap.size ≤ w.heap.size + 1; omega) (.slice (some ⟨b3, 0, none⟩) rs.length rs.length))
  generalize (((u5.setCell ⟨w.heap.size + 1 + 1, 2, none⟩ (.slice (some ⟨b3, 0, none⟩) rs.length rs.length)).setCell ⟨w.heap.size + 1, 0, none⟩ (.slice (some ⟨b1, 0, none⟩) vs.length vs.length)).setCell ⟨w.heap.size + 1, 1, none⟩ (.slice (some ⟨b2, 0, none⟩) fs.length fs.length)).setCell ⟨w.heap.size + 1, 2, none⟩ (.slice (some ⟨b3, 0, none⟩) rs.length rs.length) = z at HT1 HK HR1 HR2 HR3 ⊢
  have g0 := (unhide HT1).1
  have g1 := (unhide HT1).2.1
  have g2 := (unhide HT1).2.2.1
  exact bodyPost_ret (v := .agg #[.slice (some ⟨b1, 0, none⟩) vs.length vs.length, .slice (some ⟨b2, 0, none⟩) fs.length fs.length, .slice (some ⟨b3, 0, none⟩) rs.length rs.length]) (by simp [results, Tryz.results9, go_sem, g0, g1, g2]) rfl ⟨b1, b2, b3, rfl, unhide HR1, unhide HR2, unhide HR3, ⟨by omega, by omega, by omega⟩, unhide HK⟩
set_option maxHeartbeats 2000000 in
theorem eqDecl_c (va fa ra va' fa' ra' : Option Addr) (vc fc rc vc' fc' rc' : Nat) (vs fs : List ByteArray) (rs : List (ByteArray × Int)) (w : World) (hv : Strs w va vs) (hf : Strs w fa fs) (hr : Arrs w ra rs) (hv' : Strs w va' vs) (hf' : Strs w fa' fs) (hr' : Arrs w ra' rs) :
    Calls Tryz.prog 14 #[.agg #[.slice va vs.length vc, .slice fa fs.length fc, .slice ra rs.length rc], .agg #[.slice va' vs.length vc', .slice fa' fs.length fc', .slice ra' rs.length rc']] w fun e w' => e = .returned (.bool true) ∧ Below w.heap.size w w' := by
  have X1 := hide hv
  have X2 := hide hf
  have X3 := hide hr
  have X4 := hide hv'
  have X5 := hide hf'
  have X6 := hide hr'
  have T0 := (C3.new w (.slice va vs.length vc) (.slice fa fs.length fc) (.slice ra rs.length rc) 40).alloc (Obj.cells #[.slice va' vs.length vc', .slice fa' fs.length fc', .slice ra' rs.length rc'] 40)
  have T1 := C3.new (w.alloc (Obj.cells #[.slice va vs.length vc, .slice fa fs.length fc, .slice ra rs.length rc] 40)) (.slice va' vs.length vc') (.slice fa' fs.length fc') (.slice ra' rs.length rc') 40
  have K0 : Below w.heap.size w ((w.alloc (Obj.cells #[.slice va vs.length vc, .slice fa fs.length fc, .slice ra rs.length rc] 40)).alloc (Obj.cells #[.slice va' vs.length vc', .slice fa' fs.length fc', .slice ra' rs.length rc'] 40)) := ((Below.refl _ _).alloc (Nat.le_refl _) _).alloc (by simp) _
  rw [show (w.alloc (Obj.cells #[.slice va vs.length vc, .slice fa fs.length fc, .slice ra rs.length rc] 40)).heap.size = w.heap.size + 1 by simp] at T1
  have HT0 := hide T0
  have HT1 := hide T1
  have HK := hide K0
  clear T0 T1 K0 hv hf hr hv' hf' hr'
  go_enter Tryz.func14, Tryz.ntmps14
  go_wp2_with fail
  generalize (w.alloc (Obj.cells #[.slice va vs.length vc, .slice fa fs.length fc, .slice ra rs.length rc] 40)).alloc (Obj.cells #[.slice va' vs.length vc', .slice fa' fs.length fc', .slice ra' rs.length rc'] 40) = u at HT0 HT1 HK ⊢
  refine (eqStringS_c _ _ _ _ vs _ ((unhide X1).call (unhide HK)) ((unhide X4).call (unhide HK))).mono ?_
  rintro e u1 ⟨rfl, m, rfl⟩
  have kb := bdrew u m
  have HT0 := hide ((unhide HT0).call kb)
  have HT1 := hide ((unhide HT1).call kb)
  have HK := hide ((unhide HK).trans (kb.mono (unhide HK).size))
  clear kb
  generalize u.drewN m = u1 at HT0 HT1 HK ⊢
  have c := (unhide HT0).2.1
  have d := (unhide HT1).2.1
  go_wp2_with fail
  clear c d
  refine (eqStringS_c _ _ _ _ fs _ ((unhide X2).call (unhide HK)) ((unhide X5).call (unhide HK))).mono ?_
  rintro e u2 ⟨rfl, m2, rfl⟩
  have kb := bdrew u1 m2
  have HT0 := hide ((unhide HT0).call kb)
  have HT1 := hide ((unhide HT1).call kb)
  have HK := hide ((unhide HK).trans (kb.mono (unhide HK).size))
  clear kb
  generalize u1.drewN m2 = u2 at HT0 HT1 HK ⊢
  have c := (unhide HT0).2.2.1
  have d := (unhide HT1).2.2.1
  go_wp2_with fail
  clear c d
  refine (eqArrS_c _ _ _ _ rs _ ((unhide X3).call (unhide HK)) ((unhide X6).call (unhide HK))).mono ?_
  rintro e u3 ⟨rfl, kb⟩
  have HK := hide ((unhide HK).trans (kb.mono (unhide HK).size))
  clear kb
  go_wp2
  go_ret
  exact ⟨rfl, unhide HK⟩
end Go.Proofs.YthldhjifnpfmiaaGreatDoor
