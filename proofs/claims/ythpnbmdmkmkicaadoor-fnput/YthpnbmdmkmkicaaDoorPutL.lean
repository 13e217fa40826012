/- What is put at a place of an array: the walk of the law. -/
import Derived.Test.YthpnbmdmkmkicaaDoorPutM
namespace Go.Proofs.YthpnbmdmkmkicaaDoor
open Go.RowKit Go.Iv
set_option linter.unusedSimpArgs false
set_option linter.unusedVariables false

theorem futP {u v w : World} (h : Below u.heap.size u v) (k : Below v.heap.size v w) : Below u.heap.size u w := h.trans (k.mono h.size)
def AnsP (l : Bool) (X Y : List (Int × Int)) (p : Int) (w : World) (e : Ending) (w' : World) : Prop := ∃ oj cj ok ck, e = .returned (.tuple #[.agg #[.bool l, .slice oj X.length cj, .slice ok Y.length ck], .int .i64 p]) ∧ RowsE w' w.heap.size oj cj ok ck X Y ∧ Below w.heap.size w w'
set_option maxRecDepth 20000 in
set_option maxHeartbeats 32000000 in
theorem lawFnPut (a0 : Option Addr) (len0 cap0 : Nat) (z0 : List Int) (w : World) (hw : KW w) (w0 : IsRow .u8 w a0 len0 cap0 z0) :
    Calls Tryd.prog 5 #[.slice a0 len0 cap0] w fun e w' => e = .returned (.bool true) ∧ Below w.heap.size w w' := by
  have HW := hide hw
  clear hw
  by_cases hbig : 1048576 < len0
  · have hm := row_len w0
    clear w0
    go_enter Tryd.func5, Tryd.ntmps5
    go_wp2_with fail
    refine (big_yes _ _ _ hbig hm _).mono ?_
    rintro e w' ⟨rfl, rfl⟩
    go_wp2
    go_ret
    exact ⟨rfl, Below.refl _ _⟩
  have hs : len0 ≤ 1048576 := by omega
  have CD := hide (code_of_row w0 hs)
  clear w0 hbig
  go_enter Tryd.func5, Tryd.ntmps5
  go_wp2_with fail
  refine (big_c _ _ _ hs _).mono ?_
  rintro e w' ⟨rfl, hw'⟩
  subst w'
  go_wp2_with fail
  refine (DrawEnvPut_c _ _ _ _ (unhide CD)).mono ?_
  rintro e u1 ⟨a1, a2, lt, c1, c2, vs, fs, s, li, oa, ca, ob, cb, xs, ys, p, pl, ph, l, g, rfl, s1, s2, s3, hz, ⟨i1, i2⟩, hil, ⟨ip, ⟨ipl, iph⟩, il, ig⟩, kb⟩
  have LL := hide (show xs.length ≤ 1048576 ∧ ys.length ≤ 1048576 from ⟨i1.1, i2.1⟩)
  have HIL := hide hil
  have HIN := hide (And.intro (And.intro ipl iph) (And.intro il ig))
  have HRW := hide (show KW u1 ∧ Strs u1 a1 vs ∧ Strs u1 a2 fs ∧ Arrs u1 (some ⟨lt, 0, none⟩) [(nmA, s)] ∧ Ivs u1 oa xs ∧ Ivs u1 ob ys from ⟨(unhide HW).call kb, s1, s2, s3, i1, i2⟩)
  have HZ := hide hz
  have HB := hide kb
  clear s1 s2 s3 hz i1 i2 kb ip ipl iph il ig hil
  have b1 := (((C3.new u1 (.slice a1 vs.length c1) (.slice a2 fs.length c2) (.slice (some ⟨lt, 0, none⟩) 1 1) 27).alloc (Obj.cells #[.bool li, .slice oa xs.length ca, .slice ob ys.length cb] 30)).alloc (Obj.cells #[.int .i64 pl, .int .i64 ph] 47)).alloc (Obj.cells #[.int .i64 l, .int .i64 g] 47)
  have b2 := ((C3.new (u1.alloc (Obj.cells #[.slice a1 vs.length c1, .slice a2 fs.length c2, .slice (some ⟨lt, 0, none⟩) 1 1] 27)) (.bool li) (.slice oa xs.length ca) (.slice ob ys.length cb) 30).alloc (Obj.cells #[.int .i64 pl, .int .i64 ph] 47)).alloc (Obj.cells #[.int .i64 l, .int .i64 g] 47)
  have b3 := (CI.new ((u1.alloc (Obj.cells #[.slice a1 vs.length c1, .slice a2 fs.length c2, .slice (some ⟨lt, 0, none⟩) 1 1] 27)).alloc (Obj.cells #[.bool li, .slice oa xs.length ca, .slice ob ys.length cb] 30)) pl ph 47).alloc (Obj.cells #[.int .i64 l, .int .i64 g] 47)
  have b4 := CI.new (((u1.alloc (Obj.cells #[.slice a1 vs.length c1, .slice a2 fs.length c2, .slice (some ⟨lt, 0, none⟩) 1 1] 27)).alloc (Obj.cells #[.bool li, .slice oa xs.length ca, .slice ob ys.length cb] 30)).alloc (Obj.cells #[.int .i64 pl, .int .i64 ph] 47)) l g 47
  rw [show (u1.alloc (Obj.cells #[.slice a1 vs.length c1, .slice a2 fs.length c2, .slice (some ⟨lt, 0, none⟩) 1 1] 27)).heap.size = u1.heap.size + 1 by simp] at b2
  rw [show ((u1.alloc (Obj.cells #[.slice a1 vs.length c1, .slice a2 fs.length c2, .slice (some ⟨lt, 0, none⟩) 1 1] 27)).alloc (Obj.cells #[.bool li, .slice oa xs.length ca, .slice ob ys.length cb] 30)).heap.size = u1.heap.size + 1 + 1 by simp] at b3
  rw [show (((u1.alloc (Obj.cells #[.slice a1 vs.length c1, .slice a2 fs.length c2, .slice (some ⟨lt, 0, none⟩) 1 1] 27)).alloc (Obj.cells #[.bool li, .slice oa xs.length ca, .slice ob ys.length cb] 30)).alloc (Obj.cells #[.int .i64 pl, .int .i64 ph] 47)).heap.size = u1.heap.size + 1 + 1 + 1 by simp] at b4
  have ka := ((((Below.refl _ u1).alloc (Nat.le_refl _) (Obj.cells #[.slice a1 vs.length c1, .slice a2 fs.length c2, .slice (some ⟨lt, 0, none⟩) 1 1] 27)).alloc (by simp) (Obj.cells #[.bool li, .slice oa xs.length ca, .slice ob ys.length cb] 30)).alloc (by simp; omega) (Obj.cells #[.int .i64 pl, .int .i64 ph] 47)).alloc (by simp; omega) (Obj.cells #[.int .i64 l, .int .i64 g] 47)
  have HRW := hide (And.intro ((unhide HRW).1.call ka) (And.intro ((unhide HRW).2.1.call ka) (And.intro ((unhide HRW).2.2.1.call ka) (And.intro ((unhide HRW).2.2.2.1.call ka) (And.intro ((unhide HRW).2.2.2.2.1.call ka) ((unhide HRW).2.2.2.2.2.call ka))))))
  have HB := hide ((unhide HB).trans (ka.mono (unhide HB).size))
  go_upto_region 4 with fail
  generalize ((((u1.alloc (Obj.cells #[.slice a1 vs.length c1, .slice a2 fs.length c2, .slice (some ⟨lt, 0, none⟩) 1 1] 27)).alloc (Obj.cells #[.bool li, .slice oa xs.length ca, .slice ob ys.length cb] 30)).alloc (Obj.cells #[.int .i64 pl, .int .i64 ph] 47)).alloc (Obj.cells #[.int .i64 l, .int .i64 g] 47)) = ub at b1 b2 b3 b4 HRW HB ⊢
  have B1_ := hide b1
  have B2_ := hide b2
  have B3_ := hide b3
  have B4_ := hide b4
  clear ka b1 b2 b3 b4
  obtain ⟨wl, wx, wy, pa, he, hln⟩ : ∃ (wl : Bool) (wx wy : List (Int × Int)) (pa : Int), (putL vs fs [(nmA, s)] li xs ys p pl ph l g = wl ∧ putX vs fs [(nmA, s)] li xs ys p pl ph l g = wx ∧ putY vs fs [(nmA, s)] li xs ys p pl ph l g = wy ∧ putA vs fs [(nmA, s)] li xs ys p pl ph l g = pa) ∧ (wx.length ≤ 1048576 ∧ wy.length ≤ 1048576) := ⟨_, _, _, _, ⟨rfl, rfl, rfl, rfl⟩, putXY_len vs fs [(nmA, s)] li xs ys p pl ph l g 1048576 (unhide LL)⟩
  have HE := hide he
  have LW := hide hln
  clear he hln
  have K1 : Hid (∀ w, Below ub.heap.size ub w → Calls Tryd.prog 23 #[.agg #[.slice a1 vs.length c1, .slice a2 fs.length c2, .slice (some ⟨lt, 0, none⟩) 1 1], .agg #[.bool li, .slice oa xs.length ca, .slice ob ys.length cb], .int .i64 p, .agg #[.int .i64 pl, .int .i64 ph], .agg #[.int .i64 l, .int .i64 g]] w (AnsP wl wx wy pa w)) := fun w k => by
    have q := iEnvPut_c a1 a2 (some ⟨lt, 0, none⟩) c1 c2 1 vs fs [(nmA, s)] li oa ob ca cb xs ys p pl ph l g w ((unhide HRW).1.call k) ((unhide HRW).2.1.call k) ((unhide HRW).2.2.1.call k) ((unhide HRW).2.2.2.1.call k) (unhide HZ) ((unhide HRW).2.2.2.2.1.call k) ((unhide HRW).2.2.2.2.2.call k)
    rw [(unhide HE).1, (unhide HE).2.1, (unhide HE).2.2.1, (unhide HE).2.2.2] at q
    exact q
  have KS : Hid (∀ w, Below ub.heap.size ub w → Calls Tryd.prog 24 #[.agg #[.slice a1 vs.length c1, .slice a2 fs.length c2, .slice (some ⟨lt, 0, none⟩) 1 1], .agg #[.bool li, .slice oa xs.length ca, .slice ob ys.length cb], .int .i64 p, .agg #[.int .i64 pl, .int .i64 ph], .agg #[.int .i64 l, .int .i64 g]] w (AnsP wl wx wy pa w)) := fun w k => by
    have q := sEnvPut_c a1 a2 (some ⟨lt, 0, none⟩) c1 c2 1 vs fs [(nmA, s)] li oa ob ca cb xs ys p pl ph l g w ((unhide HRW).2.1.call k) ((unhide HRW).2.2.1.call k) ((unhide HRW).2.2.2.1.call k) (unhide HZ) ((unhide HRW).2.2.2.2.1.call k) ((unhide HRW).2.2.2.2.2.call k)
    rw [(unhide HE).1, (unhide HE).2.1, (unhide HE).2.2.1, (unhide HE).2.2.2] at q
    exact q
  have KA : Hid (∀ w, Below ub.heap.size ub w → Calls Tryd.prog 11 #[.agg #[.slice a1 vs.length c1, .slice a2 fs.length c2, .slice (some ⟨lt, 0, none⟩) 1 1], .agg #[.bool li, .slice oa xs.length ca, .slice ob ys.length cb]] w fun e w' => e = .returned (.bool (envB vs fs [(nmA, s)] li xs ys)) ∧ Below w.heap.size w w') := fun w k => sEnvOk_c a1 a2 (some ⟨lt, 0, none⟩) c1 c2 1 vs fs [(nmA, s)] li oa ob ca cb xs ys w ((unhide HRW).2.1.call k) ((unhide HRW).2.2.1.call k) ((unhide HRW).2.2.2.1.call k) (unhide HZ) ((unhide HRW).2.2.2.2.1.call k) ((unhide HRW).2.2.2.2.2.call k)
  obtain ⟨A, hA⟩ : ∃ A, envB vs fs [(nmA, s)] li xs ys = A := ⟨_, rfl⟩
  rw [hA] at KA
  have HA := hide hA
  clear hA
  have HK := hide (Below.refl ub.heap.size ub)
  have q0 := (unhide B1_).1
  have q1 := (unhide B1_).2.1
  have q2 := (unhide B1_).2.2.1
  have q3 := (unhide B2_).1
  have q4 := (unhide B2_).2.1
  have q5 := (unhide B2_).2.2.1
  have q6 := (unhide B3_).1
  have q7 := (unhide B3_).2.1
  have q8 := (unhide B4_).1
  have q9 := (unhide B4_).2.1
  go_wp2_with fail
  refine ((unhide K1) _ (unhide HK)).mono ?_
  rintro e u3 ⟨ox, cx, oy, cy, rfl, hre, kb⟩
  have HFI := hide (hre.ivs (unhide LW))
  clear hre
  have B1_ := hide ((unhide B1_).call kb)
  have B2_ := hide ((unhide B2_).call kb)
  have B3_ := hide ((unhide B3_).call kb)
  have B4_ := hide ((unhide B4_).call kb)
  have HK := hide (futP (unhide HK) kb)
  clear kb q0 q1 q2 q3 q4 q5 q6 q7 q8 q9
  have BF_ := hide (C3.new u3 (.bool wl) (.slice ox wx.length cx) (.slice oy wy.length cy) 30)
  have kb := (Below.refl _ u3).alloc (Nat.le_refl _) (Obj.cells #[.bool wl, .slice ox wx.length cx, .slice oy wy.length cy] 30)
  have B1_ := hide ((unhide B1_).call kb)
  have B2_ := hide ((unhide B2_).call kb)
  have B3_ := hide ((unhide B3_).call kb)
  have B4_ := hide ((unhide B4_).call kb)
  have HFI := hide (And.intro ((unhide HFI).1.call kb) ((unhide HFI).2.call kb))
  have HK := hide (futP (unhide HK) kb)
  clear kb 
  go_upto_region 5 with fail
  generalize u3.alloc (Obj.cells #[.bool wl, .slice ox wx.length cx, .slice oy wy.length cy] 30) = u4 at B1_ B2_ B3_ B4_ HFI BF_ HK ⊢
  generalize u3.heap.size = gbf at BF_ ⊢
  have q0 := (unhide B1_).1
  have q1 := (unhide B1_).2.1
  have q2 := (unhide B1_).2.2.1
  have q3 := (unhide B2_).1
  have q4 := (unhide B2_).2.1
  have q5 := (unhide B2_).2.2.1
  have q6 := (unhide B3_).1
  have q7 := (unhide B3_).2.1
  have q8 := (unhide B4_).1
  have q9 := (unhide B4_).2.1
  have q10 := (unhide BF_).1
  have q11 := (unhide BF_).2.1
  have q12 := (unhide BF_).2.2.1
  go_wp2_with fail
  refine ((unhide KS) _ (unhide HK)).mono ?_
  rintro e u5 ⟨ox2, cx2, oy2, cy2, rfl, hre, kb⟩
  have HGI := hide (hre.ivs (unhide LW))
  clear hre
  have B1_ := hide ((unhide B1_).call kb)
  have B2_ := hide ((unhide B2_).call kb)
  have B3_ := hide ((unhide B3_).call kb)
  have B4_ := hide ((unhide B4_).call kb)
  have BF_ := hide ((unhide BF_).call kb)
  have HFI := hide (And.intro ((unhide HFI).1.call kb) ((unhide HFI).2.call kb))
  have HK := hide (futP (unhide HK) kb)
  clear kb q0 q1 q2 q3 q4 q5 q6 q7 q8 q9 q10 q11 q12
  have BG_ := hide (C3.new u5 (.bool wl) (.slice ox2 wx.length cx2) (.slice oy2 wy.length cy2) 30)
  have kb := (Below.refl _ u5).alloc (Nat.le_refl _) (Obj.cells #[.bool wl, .slice ox2 wx.length cx2, .slice oy2 wy.length cy2] 30)
  have B1_ := hide ((unhide B1_).call kb)
  have B2_ := hide ((unhide B2_).call kb)
  have B3_ := hide ((unhide B3_).call kb)
  have B4_ := hide ((unhide B4_).call kb)
  have BF_ := hide ((unhide BF_).call kb)
  have HFI := hide (And.intro ((unhide HFI).1.call kb) ((unhide HFI).2.call kb))
  have HGI := hide (And.intro ((unhide HGI).1.call kb) ((unhide HGI).2.call kb))
  have HK := hide (futP (unhide HK) kb)
  clear kb 
  go_upto_region 6 with fail
  generalize u5.alloc (Obj.cells #[.bool wl, .slice ox2 wx.length cx2, .slice oy2 wy.length cy2] 30) = u6 at B1_ B2_ B3_ B4_ BF_ HFI HGI BG_ HK ⊢
  generalize u5.heap.size = gbg at BG_ ⊢
  have q0 := (unhide B1_).1
  have q1 := (unhide B1_).2.1
  have q2 := (unhide B1_).2.2.1
  have q3 := (unhide B2_).1
  have q4 := (unhide B2_).2.1
  have q5 := (unhide B2_).2.2.1
  have q6 := (unhide B3_).1
  have q7 := (unhide B3_).2.1
  have q8 := (unhide B4_).1
  have q9 := (unhide B4_).2.1
  have q10 := (unhide BF_).1
  have q11 := (unhide BF_).2.1
  have q12 := (unhide BF_).2.2.1
  have q13 := (unhide BG_).1
  have q14 := (unhide BG_).2.1
  have q15 := (unhide BG_).2.2.1
  go_wp2_with fail
  refine (same_again (unhide HFI) (unhide HGI)).mono ?_
  rintro e u7 ⟨rfl, kb⟩
  have B1_ := hide ((unhide B1_).call kb)
  have B2_ := hide ((unhide B2_).call kb)
  have B3_ := hide ((unhide B3_).call kb)
  have B4_ := hide ((unhide B4_).call kb)
  have BF_ := hide ((unhide BF_).call kb)
  have BG_ := hide ((unhide BG_).call kb)
  have HFI := hide (And.intro ((unhide HFI).1.call kb) ((unhide HFI).2.call kb))
  have HGI := hide (And.intro ((unhide HGI).1.call kb) ((unhide HGI).2.call kb))
  have HK := hide (futP (unhide HK) kb)
  clear kb q0 q1 q2 q3 q4 q5 q6 q7 q8 q9 q10 q11 q12 q13 q14 q15
  have q0 := (unhide B1_).1
  have q1 := (unhide B1_).2.1
  have q2 := (unhide B1_).2.2.1
  have q3 := (unhide B2_).1
  have q4 := (unhide B2_).2.1
  have q5 := (unhide B2_).2.2.1
  have q6 := (unhide B3_).1
  have q7 := (unhide B3_).2.1
  have q8 := (unhide B4_).1
  have q9 := (unhide B4_).2.1
  have q10 := (unhide BF_).1
  have q11 := (unhide BF_).2.1
  have q12 := (unhide BF_).2.2.1
  have q13 := (unhide BG_).1
  have q14 := (unhide BG_).2.1
  have q15 := (unhide BG_).2.2.1
  go_wp2_with fail
  refine ((unhide KA) _ (unhide HK)).mono ?_
  rintro e u8 ⟨rfl, kb⟩
  have B1_ := hide ((unhide B1_).call kb)
  have B2_ := hide ((unhide B2_).call kb)
  have B3_ := hide ((unhide B3_).call kb)
  have B4_ := hide ((unhide B4_).call kb)
  have BF_ := hide ((unhide BF_).call kb)
  have BG_ := hide ((unhide BG_).call kb)
  have HFI := hide (And.intro ((unhide HFI).1.call kb) ((unhide HFI).2.call kb))
  have HGI := hide (And.intro ((unhide HGI).1.call kb) ((unhide HGI).2.call kb))
  have HK := hide (futP (unhide HK) kb)
  clear kb q0 q1 q2 q3 q4 q5 q6 q7 q8 q9 q10 q11 q12 q13 q14 q15
  have q0 := (unhide B1_).1
  have q1 := (unhide B1_).2.1
  have q2 := (unhide B1_).2.2.1
  have q3 := (unhide B2_).1
  have q4 := (unhide B2_).2.1
  have q5 := (unhide B2_).2.2.1
  have q6 := (unhide B3_).1
  have q7 := (unhide B3_).2.1
  have q8 := (unhide B4_).1
  have q9 := (unhide B4_).2.1
  have q10 := (unhide BF_).1
  have q11 := (unhide BF_).2.1
  have q12 := (unhide BF_).2.2.1
  have q13 := (unhide BG_).1
  have q14 := (unhide BG_).2.1
  have q15 := (unhide BG_).2.2.1
  cases A
  · skip
    go_wp2_with fail
    refine (same_again (unhide HFI) (unhide HGI)).mono ?_
    rintro e u9 ⟨rfl, kb⟩
    have HB := hide ((unhide HB).trans ((futP (unhide HK) kb).mono (unhide HB).size))
    clear kb q0 q1 q2 q3 q4 q5 q6 q7 q8 q9 q10 q11 q12 q13 q14 q15
    go_wp2
    go_ret
    exact ⟨by first | rfl | (simp; done), unhide HB⟩
  cases li
  · skip
    go_wp2_with fail
    refine (same_again (unhide HFI) (unhide HGI)).mono ?_
    rintro e u9 ⟨rfl, kb⟩
    have HB := hide ((unhide HB).trans ((futP (unhide HK) kb).mono (unhide HB).size))
    clear kb q0 q1 q2 q3 q4 q5 q6 q7 q8 q9 q10 q11 q12 q13 q14 q15
    go_wp2
    go_ret
    exact ⟨by first | rfl | (simp; done), unhide HB⟩
  by_cases hp0 : p < 0
  · have hp0d : decide (p < 0) = true := decide_eq_true hp0
    go_wp2_with fail
    refine (same_again (unhide HFI) (unhide HGI)).mono ?_
    rintro e u9 ⟨rfl, kb⟩
    have HB := hide ((unhide HB).trans ((futP (unhide HK) kb).mono (unhide HB).size))
    clear kb q0 q1 q2 q3 q4 q5 q6 q7 q8 q9 q10 q11 q12 q13 q14 q15
    go_wp2
    go_ret
    exact ⟨by first | rfl | (simp; done), unhide HB⟩
  by_cases hp1 : 1 ≤ p
  · have hp1d : decide (1 ≤ p) = true := decide_eq_true hp1
    go_wp2_with fail
    refine (same_again (unhide HFI) (unhide HGI)).mono ?_
    rintro e u9 ⟨rfl, kb⟩
    have HB := hide ((unhide HB).trans ((futP (unhide HK) kb).mono (unhide HB).size))
    clear kb q0 q1 q2 q3 q4 q5 q6 q7 q8 q9 q10 q11 q12 q13 q14 q15
    go_wp2
    go_ret
    exact ⟨by first | rfl | (simp; done), unhide HB⟩
  have hpz : p = 0 := by omega
  clear hp0 hp1
  subst hpz
  go_wp2_with fail
  refine (sIvOk_c pl ph _).mono ?_
  rintro e u10 ⟨rfl, kb⟩
  have B1_ := hide ((unhide B1_).call kb)
  have B2_ := hide ((unhide B2_).call kb)
  have B3_ := hide ((unhide B3_).call kb)
  have B4_ := hide ((unhide B4_).call kb)
  have BF_ := hide ((unhide BF_).call kb)
  have BG_ := hide ((unhide BG_).call kb)
  have HFI := hide (And.intro ((unhide HFI).1.call kb) ((unhide HFI).2.call kb))
  have HGI := hide (And.intro ((unhide HGI).1.call kb) ((unhide HGI).2.call kb))
  have HK := hide (futP (unhide HK) kb)
  clear kb q0 q1 q2 q3 q4 q5 q6 q7 q8 q9 q10 q11 q12 q13 q14 q15
  have q0 := (unhide B1_).1
  have q1 := (unhide B1_).2.1
  have q2 := (unhide B1_).2.2.1
  have q3 := (unhide B2_).1
  have q4 := (unhide B2_).2.1
  have q5 := (unhide B2_).2.2.1
  have q6 := (unhide B3_).1
  have q7 := (unhide B3_).2.1
  have q8 := (unhide B4_).1
  have q9 := (unhide B4_).2.1
  have q10 := (unhide BF_).1
  have q11 := (unhide BF_).2.1
  have q12 := (unhide BF_).2.2.1
  have q13 := (unhide BG_).1
  have q14 := (unhide BG_).2.1
  have q15 := (unhide BG_).2.2.1
  cases hpo : okB pl ph
  · skip
    go_wp2_with fail
    refine (same_again (unhide HFI) (unhide HGI)).mono ?_
    rintro e u9 ⟨rfl, kb⟩
    have HB := hide ((unhide HB).trans ((futP (unhide HK) kb).mono (unhide HB).size))
    clear kb q0 q1 q2 q3 q4 q5 q6 q7 q8 q9 q10 q11 q12 q13 q14 q15
    go_wp2
    go_ret
    exact ⟨by first | rfl | (simp; done), unhide HB⟩
  go_wp2_with fail
  refine (sIvOk_c l g _).mono ?_
  rintro e u11 ⟨rfl, kb⟩
  have B1_ := hide ((unhide B1_).call kb)
  have B2_ := hide ((unhide B2_).call kb)
  have B3_ := hide ((unhide B3_).call kb)
  have B4_ := hide ((unhide B4_).call kb)
  have BF_ := hide ((unhide BF_).call kb)
  have BG_ := hide ((unhide BG_).call kb)
  have HFI := hide (And.intro ((unhide HFI).1.call kb) ((unhide HFI).2.call kb))
  have HGI := hide (And.intro ((unhide HGI).1.call kb) ((unhide HGI).2.call kb))
  have HK := hide (futP (unhide HK) kb)
  clear kb q0 q1 q2 q3 q4 q5 q6 q7 q8 q9 q10 q11 q12 q13 q14 q15
  have q0 := (unhide B1_).1
  have q1 := (unhide B1_).2.1
  have q2 := (unhide B1_).2.2.1
  have q3 := (unhide B2_).1
  have q4 := (unhide B2_).2.1
  have q5 := (unhide B2_).2.2.1
  have q6 := (unhide B3_).1
  have q7 := (unhide B3_).2.1
  have q8 := (unhide B4_).1
  have q9 := (unhide B4_).2.1
  have q10 := (unhide BF_).1
  have q11 := (unhide BF_).2.1
  have q12 := (unhide BF_).2.2.1
  have q13 := (unhide BG_).1
  have q14 := (unhide BG_).2.1
  have q15 := (unhide BG_).2.2.1
  cases hao : okB l g
  · skip
    go_wp2_with fail
    refine (same_again (unhide HFI) (unhide HGI)).mono ?_
    rintro e u9 ⟨rfl, kb⟩
    have HB := hide ((unhide HB).trans ((futP (unhide HK) kb).mono (unhide HB).size))
    clear kb q0 q1 q2 q3 q4 q5 q6 q7 q8 q9 q10 q11 q12 q13 q14 q15
    go_wp2
    go_ret
    exact ⟨by first | rfl | (simp; done), unhide HB⟩
  have HPO := hide (show pl ≤ ph from of_decide_eq_true hpo)
  have HAO := hide (show l ≤ g from of_decide_eq_true hao)
  clear hpo hao
  have HFI0 := HFI
  have BF0 := BF_
  have B10 := B1_
  have h4l := (unhide B4_).2.2.2
  have HKU := HK
  have HKI := hide (Below.refl u11.heap.size u11)
  go_wp2_with fail
  refine (inside_c a1 a2 (some ⟨lt, 0, none⟩) c1 c2 1 vs fs [(nmA, s)] oa ob ca cb xs ys a0 len0 cap0 _ ((unhide HRW).2.1.call (unhide HK)) ((unhide HRW).2.2.1.call (unhide HK)) ((unhide HRW).2.2.2.1.call (unhide HK)) (unhide HZ) ((unhide HRW).2.2.2.2.1.call (unhide HK)) ((unhide HRW).2.2.2.2.2.call (unhide HK)) ((unhide CD).below ((unhide HB).trans ((unhide HK).mono (unhide HB).size))) (unhide HA) (unhide HIL)).mono ?_
  rintro e v1 ⟨ia, ib, ic, ja, jb, jc, B1, T, gs, is, bs, js, rfl, hsw, hF, h1, h2, kb⟩
  have HSW := hide hsw
  have HF := hide hF
  have H1 := hide h1
  have H2 := hide h2
  clear hsw hF h1 h2
  have HKI := hide (futP (unhide HKI) kb)
  have B1_ := hide ((unhide B1_).call kb)
  have B2_ := hide ((unhide B2_).call kb)
  have B3_ := hide ((unhide B3_).call kb)
  have B4_ := hide ((unhide B4_).call kb)
  have BF_ := hide ((unhide BF_).call kb)
  have BG_ := hide ((unhide BG_).call kb)
  have HFI := hide (And.intro ((unhide HFI).1.call kb) ((unhide HFI).2.call kb))
  have HK := hide (futP (unhide HK) kb)
  clear kb q0 q1 q2 q3 q4 q5 q6 q7 q8 q9 q10 q11 q12 q13 q14 q15
  clear HGI
  have HT := hide (unhide HSW).2.2.2.2.2
  have BS_ := hide (C3.new v1 (.slice ia is.length ja) (.slice ib bs.length jb) (.slice ic js.length jc) 37)
  have kb := (Below.refl _ v1).alloc (Nat.le_refl _) (Obj.cells #[.slice ia is.length ja, .slice ib bs.length jb, .slice ic js.length jc] 37)
  have HSW := hide ((unhide HSW).call kb)
  have HKI := hide (futP (unhide HKI) kb)
  have B1_ := hide ((unhide B1_).call kb)
  have B2_ := hide ((unhide B2_).call kb)
  have B3_ := hide ((unhide B3_).call kb)
  have B4_ := hide ((unhide B4_).call kb)
  have BF_ := hide ((unhide BF_).call kb)
  have BG_ := hide ((unhide BG_).call kb)
  have HFI := hide (And.intro ((unhide HFI).1.call kb) ((unhide HFI).2.call kb))
  have HK := hide (futP (unhide HK) kb)
  clear kb 
  go_upto_region 9 with fail
  generalize v1.alloc (Obj.cells #[.slice ia is.length ja, .slice ib bs.length jb, .slice ic js.length jc] 37) = v2 at B1_ B2_ B3_ B4_ BF_ BG_ HFI HK HKI HSW BS_ ⊢
  obtain ⟨gs_, hgs⟩ : ∃ x, x = v1.heap.size := ⟨_, rfl⟩
  rw [← hgs] at BS_ HT ⊢
  clear hgs
  have q0 := (unhide B1_).1
  have q1 := (unhide B1_).2.1
  have q2 := (unhide B1_).2.2.1
  have q3 := (unhide B2_).1
  have q4 := (unhide B2_).2.1
  have q5 := (unhide B2_).2.2.1
  have q6 := (unhide B3_).1
  have q7 := (unhide B3_).2.1
  have q8 := (unhide B4_).1
  have q9 := (unhide B4_).2.1
  have q10 := (unhide BF_).1
  have q11 := (unhide BF_).2.1
  have q12 := (unhide BF_).2.2.1
  have q13 := (unhide BG_).1
  have q14 := (unhide BG_).2.1
  have q15 := (unhide BG_).2.2.1
  have q16 := (unhide BS_).1
  have q17 := (unhide BS_).2.1
  have q18 := (unhide BS_).2.2.1
  have ipl := (unhide HIN).1.1
  have iph := (unhide HIN).1.2
  go_wp2_with fail
  refine (within_c pl ph a0 len0 cap0 _ ipl iph (unhide HPO) (by constructor <;> omega) _ ((unhide CD).below ((unhide HB).trans ((unhide HK).mono (unhide HB).size)))).mono ?_
  rintro e v3 ⟨⟨n, rfl, na, nb⟩, kb⟩
  have HSW := hide ((unhide HSW).call kb)
  have HKI := hide (futP (unhide HKI) kb)
  have B1_ := hide ((unhide B1_).call kb)
  have B2_ := hide ((unhide B2_).call kb)
  have B3_ := hide ((unhide B3_).call kb)
  have B4_ := hide ((unhide B4_).call kb)
  have BF_ := hide ((unhide BF_).call kb)
  have BG_ := hide ((unhide BG_).call kb)
  have BS_ := hide ((unhide BS_).call kb)
  have HFI := hide (And.intro ((unhide HFI).1.call kb) ((unhide HFI).2.call kb))
  have HK := hide (futP (unhide HK) kb)
  clear kb q0 q1 q2 q3 q4 q5 q6 q7 q8 q9 q10 q11 q12 q13 q14 q15 q16 q17 q18
  clear ipl iph
  have HPL := hide (put_law (unhide HA) (unhide HPO) (unhide HAO) n ⟨na, nb⟩)
  clear na nb
  have q0 := (unhide B1_).1
  have q1 := (unhide B1_).2.1
  have q2 := (unhide B1_).2.2.1
  have q3 := (unhide B2_).1
  have q4 := (unhide B2_).2.1
  have q5 := (unhide B2_).2.2.1
  have q6 := (unhide B3_).1
  have q7 := (unhide B3_).2.1
  have q8 := (unhide B4_).1
  have q9 := (unhide B4_).2.1
  have q10 := (unhide BF_).1
  have q11 := (unhide BF_).2.1
  have q12 := (unhide BF_).2.2.1
  have q13 := (unhide BG_).1
  have q14 := (unhide BG_).2.1
  have q15 := (unhide BG_).2.2.1
  have q16 := (unhide BS_).1
  have q17 := (unhide BS_).2.1
  have q18 := (unhide BS_).2.2.1
  obtain ⟨e0, e1⟩ : v3.cell? ⟨lt, 0, none⟩ = some (.string nmA) ∧ v3.cell? ⟨lt, 1, none⟩ = some (.int .i64 s) := by
    rcases ((unhide HRW).2.2.2.1.call (unhide HK)).2 with h0 | ⟨cb, co, ee, hc⟩
    · simp at h0
    · cases ee
      have := hc 0 (by simp)
      simpa using this
  by_cases hn0 : n < 0
  · have hn0d : decide (n < 0) = true := decide_eq_true hn0
    have hpa : pa = 2 := (unhide HE).2.2.2.symm.trans ((unhide HPL).1 (.inl hn0))
    subst hpa
    have HB := hide ((unhide HB).trans ((unhide HK).mono (unhide HB).size))
    go_wp2
    go_ret
    exact ⟨by first | rfl | (simp; done), unhide HB⟩
  by_cases hns : s ≤ n
  · have hnsd : decide (s ≤ n) = true := decide_eq_true hns
    have hpa : pa = 2 := (unhide HE).2.2.2.symm.trans ((unhide HPL).1 (.inr hns))
    subst hpa
    have HB := hide ((unhide HB).trans ((unhide HK).mono (unhide HB).size))
    go_wp2
    go_ret
    exact ⟨by first | rfl | (simp; done), unhide HB⟩
  obtain ⟨p, hys, hpp, el, ex, ey, henv⟩ := (unhide HPL).2 ⟨by omega, by omega⟩
  have ewl := (unhide HE).1.symm.trans el
  have ewx := (unhide HE).2.1.symm.trans ex
  have ewy := (unhide HE).2.2.1.symm.trans ey
  subst ewl
  have ewx2 := ewx.symm
  clear ewx HE HPL K1 KS KA HA
  subst wx
  have HEY := hide ewy
  have HENV := hide henv
  have HYS := hide hys
  have HPP := hide hpp
  clear ewy henv hys hpp el ex ey
  obtain ⟨m, hm⟩ : ∃ m : Nat, n = (m : Int) := ⟨n.toNat, by omega⟩
  subst hm
  clear hn0
  have hms : (m : Int) < s := by omega
  clear hns
  have hL0 : 0 < js.length := by rw [(unhide HF).2.2.1]; simp
  have hl0 : ((js[0]).length : Int) = s := (unhide HF).2.2.2 0 hL0 (by simp)
  have hml : m < (js[0]).length := by omega
  obtain ⟨S_, hS⟩ : ∃ S_ : Nat, S_ = (js[0]).length := ⟨_, rfl⟩
  have hmS : (m : Int) < (S_ : Int) := by omega
  have hLI : (0 : Int) < (js.length : Int) := by omega
  obtain ⟨g3, b3, c3', hg3, eb, hb3, hbg, hh3, _, _, _⟩ := (unhide HSW).w3 hL0 hml 0
  subst eb
  rw [← hS] at hh3
  have HS_ := hide hS
  clear hS hl0
  have hHT := unhide HT
  go_upto_region 12 with fail
  clear e0 e1 q0 q1 q2 q3 q4 q5 q6 q7 q8 q9 q10 q11 q12 q13 q14 q15 q16 q17 q18
  have hc1 := (unhide BS_).2.2.1
  have hc2 := (unhide B4_).1
  have hc3 := (unhide B4_).2.1
  have il := (unhide HIN).2.1
  have ig := (unhide HIN).2.2
  obtain ⟨wz, hwz⟩ : ∃ x, x = v3.drew := ⟨_, rfl⟩
  have kd : Below v3.heap.size v3 wz := by rw [hwz]; exact (Below.refl _ _).drew
  have HSW := hide ((unhide HSW).call kd)
  have B1_ := hide ((unhide B1_).call kd)
  have B2_ := hide ((unhide B2_).call kd)
  have B3_ := hide ((unhide B3_).call kd)
  have B4_ := hide ((unhide B4_).call kd)
  have BF_ := hide ((unhide BF_).call kd)
  have BG_ := hide ((unhide BG_).call kd)
  have BS_ := hide ((unhide BS_).call kd)
  have HFI := hide (And.intro ((unhide HFI).1.call kd) ((unhide HFI).2.call kd))
  have HK := hide (futP (unhide HK) kd)
  have HKI := hide (futP (unhide HKI) kd)
  clear kd
  refine wp_region_held_drew (S := (fun u9 => u9.cell? ⟨gs_, 2, none⟩ = some (.slice (some ⟨b3, 0, none⟩) js.length jc) ∧ u9.cell? ⟨b3, 0, none⟩ = some (.slice (some ⟨g3, 0, none⟩) S_ c3') ∧ u9.cell? ⟨u1.heap.size + 1 + 1 + 1, 0, none⟩ = some (.int .i64 l) ∧ u9.cell? ⟨u1.heap.size + 1 + 1 + 1, 1, none⟩ = some (.int .i64 g))) (by kernel_rfl) (by exact ⟨hc1, hh3, hc2, hc3⟩) (fun hHeld => ?_)
  rw [← hwz] at hHeld ⊢
  clear hwz hc1 hh3 hc2 hc3
  refine wpAnyH_take (i := 0) (oi := { dst := some 112, op := Op.fieldAddr 37 (Operand.tmp 12) 2, type := 0, pos := "laws.go:897", after := #[], guard := none }) (v := ?_) rfl (by kernel_rfl) (by kernel_rfl) (by kernel_rfl) (fun _ _ _ h => h) (Or.inl ⟨by rfl, ?_⟩) (by assumption) ?_
  rotate_left
  · (intro w9 hSw; (try dsimp only at hSw); go_simp; try with_reducible rfl)
  try simp only [Act.put, List.setIfInBounds_toArray, List.set_cons_zero, List.set_cons_succ]
  refine wpAnyH_take (i := 1) (oi := { dst := some 113, op := Op.load 35 (Operand.tmp 112), type := 35, pos := "laws.go:897", after := #[{ on := 0, ground := Ground.data }], guard := none }) (v := ?_) rfl (by kernel_rfl) (by kernel_rfl) (by kernel_rfl) (fun _ _ _ h => h) (Or.inl ⟨by rfl, ?_⟩) (by assumption) ?_
  rotate_left
  · (intro w9 hSw; (try dsimp only at hSw); go_simp; try with_reducible rfl)
  try simp only [Act.put, List.setIfInBounds_toArray, List.set_cons_zero, List.set_cons_succ]
  refine wpAnyH_take (i := 2) (oi := { dst := some 114, op := Op.move (Operand.tmp 5), type := 2, pos := "laws.go:897", after := #[], guard := none }) (v := ?_) rfl (by kernel_rfl) (by kernel_rfl) (by kernel_rfl) (fun _ _ _ h => h) (Or.inl ⟨by rfl, ?_⟩) (by assumption) ?_
  rotate_left
  · (intro w9 hSw; (try dsimp only at hSw); go_simp; try with_reducible rfl)
  try simp only [Act.put, List.setIfInBounds_toArray, List.set_cons_zero, List.set_cons_succ]
  refine wpAnyH_take (i := 3) (oi := { dst := some 115, op := Op.indexAddr 35 (Operand.tmp 113) (Operand.tmp 114), type := 0, pos := "laws.go:897", after := #[{ on := 1, ground := Ground.data }, { on := 2, ground := Ground.data }], guard := none }) (v := ?_) rfl (by kernel_rfl) (by kernel_rfl) (by kernel_rfl) (fun _ _ _ h => h) (Or.inl ⟨by rfl, ?_⟩) (by assumption) ?_
  rotate_left
  · (intro w9 hSw; (try dsimp only at hSw); go_simp; try with_reducible rfl)
  try simp only [Act.put, List.setIfInBounds_toArray, List.set_cons_zero, List.set_cons_succ]
  refine wpAnyH_take (i := 4) (oi := { dst := some 116, op := Op.load 33 (Operand.tmp 115), type := 33, pos := "laws.go:897", after := #[{ on := 3, ground := Ground.data }], guard := none }) (v := ?_) rfl (by kernel_rfl) (by kernel_rfl) (by kernel_rfl) (fun _ _ _ h => h) (Or.inl ⟨by rfl, ?_⟩) (by assumption) ?_
  rotate_left
  · (intro w9 hSw; (try dsimp only at hSw); go_simp; try with_reducible rfl)
  try simp only [Act.put, List.setIfInBounds_toArray, List.set_cons_zero, List.set_cons_succ]
  refine wpAnyH_take (i := 5) (oi := { dst := some 117, op := Op.move (Operand.tmp 13), type := 2, pos := "laws.go:897", after := #[], guard := none }) (v := ?_) rfl (by kernel_rfl) (by kernel_rfl) (by kernel_rfl) (fun _ _ _ h => h) (Or.inl ⟨by rfl, ?_⟩) (by assumption) ?_
  rotate_left
  · (intro w9 hSw; (try dsimp only at hSw); go_simp; try with_reducible rfl)
  try simp only [Act.put, List.setIfInBounds_toArray, List.set_cons_zero, List.set_cons_succ]
  refine wpAnyH_take (i := 6) (oi := { dst := some 118, op := Op.load 47 (Operand.tmp 7), type := 47, pos := "laws.go:897", after := #[], guard := none }) (v := ?_) rfl (by kernel_rfl) (by kernel_rfl) (by kernel_rfl) (fun _ _ _ h => h) (Or.inl ⟨by rfl, ?_⟩) (by assumption) ?_
  rotate_left
  · (intro w9 hSw; (try dsimp only at hSw); go_simp; try with_reducible rfl)
  try simp only [Act.put, List.setIfInBounds_toArray, List.set_cons_zero, List.set_cons_succ]
  refine wpAnyH_take (i := 7) (oi := { dst := some 119, op := Op.move (Operand.tmp 0), type := 22, pos := "laws.go:897", after := #[], guard := none }) (v := ?_) rfl (by kernel_rfl) (by kernel_rfl) (by kernel_rfl) (fun _ _ _ h => h) (Or.inl ⟨by rfl, ?_⟩) (by assumption) ?_
  rotate_left
  · (intro w9 hSw; (try dsimp only at hSw); go_simp; try with_reducible rfl)
  try simp only [Act.put, List.setIfInBounds_toArray, List.set_cons_zero, List.set_cons_succ]
  refine wpAnyH_ready (rs := [8]) (by kernel_rfl) (by simp) ?_
  refine AllReadyH.cons (i := 8) (o := { dst := some 120, op := Op.call { callee := Callee.value (Operand.func 26), args := #[Operand.tmp 118, Operand.tmp 119, Operand.const (Value.int IntKind.i64 4)], argTypes := #[47, 22, 3] }, type := 2, pos := "laws.go:897", after := #[{ on := 6, ground := Ground.data }, { on := 7, ground := Ground.data }], guard := none }) rfl (fun K hK => ?_) AllReadyH.nil
  go_simp
  refine (within_c l g a0 len0 cap0 _ il ig (unhide HAO) (by constructor <;> omega) _ ((unhide CD).below ((unhide HB).trans ((unhide HK).mono (unhide HB).size)))).mono ?_
  rintro e v4 ⟨⟨n2, rfl, na, nb⟩, kb⟩
  have HSW := hide ((unhide HSW).call kb)
  have B1_ := hide ((unhide B1_).call kb)
  have B2_ := hide ((unhide B2_).call kb)
  have B3_ := hide ((unhide B3_).call kb)
  have B4_ := hide ((unhide B4_).call kb)
  have BF_ := hide ((unhide BF_).call kb)
  have BG_ := hide ((unhide BG_).call kb)
  have BS_ := hide ((unhide BS_).call kb)
  have HFI := hide (And.intro ((unhide HFI).1.call kb) ((unhide HFI).2.call kb))
  have HK := hide (futP (unhide HK) kb)
  have HKI := hide (futP (unhide HKI) kb)
  have hq := (show (fun u9 => u9.cell? ⟨gs_, 2, none⟩ = some (.slice (some ⟨b3, 0, none⟩) js.length jc) ∧ u9.cell? ⟨b3, 0, none⟩ = some (.slice (some ⟨g3, 0, none⟩) S_ c3') ∧ u9.cell? ⟨u1.heap.size + 1 + 1 + 1, 0, none⟩ = some (.int .i64 l) ∧ u9.cell? ⟨u1.heap.size + 1 + 1 + 1, 1, none⟩ = some (.int .i64 g)) v4 from ⟨(kb.cell (World.block_lt_of_cell? _ _ hHeld.1)).trans hHeld.1, (kb.cell (World.block_lt_of_cell? _ _ hHeld.2.1)).trans hHeld.2.1, (kb.cell (World.block_lt_of_cell? _ _ hHeld.2.2.1)).trans hHeld.2.2.1, (kb.cell (World.block_lt_of_cell? _ _ hHeld.2.2.2)).trans hHeld.2.2.2⟩)
  clear kb hHeld
  refine hK.out _ _ hq (fun hHeld => ?_)
  clear hK K hq
  try simp only [Act.put, List.setIfInBounds_toArray, List.set_cons_zero, List.set_cons_succ]
  refine wpAnyH_take (i := 9) (oi := { dst := some 121, op := Op.indexAddr 33 (Operand.tmp 116) (Operand.tmp 117), type := 0, pos := "laws.go:897", after := #[{ on := 4, ground := Ground.data }, { on := 5, ground := Ground.data }, { on := 0, ground := Ground.phase }, { on := 1, ground := Ground.phase }, { on := 2, ground := Ground.phase }, { on := 3, ground := Ground.phase }, { on := 4, ground := Ground.phase }, { on := 5, ground := Ground.phase }, { on := 6, ground := Ground.phase }, { on := 7, ground := Ground.phase }, { on := 8, ground := Ground.phase }], guard := none }) (v := ?_) rfl (by kernel_rfl) (by kernel_rfl) (by kernel_rfl) (fun _ _ _ h => h) (Or.inl ⟨by rfl, ?_⟩) (by assumption) ?_
  rotate_left
  · (intro w9 hSw; (try dsimp only at hSw); go_simp; try with_reducible rfl)
  try simp only [Act.put, List.setIfInBounds_toArray, List.set_cons_zero, List.set_cons_succ]
  refine wpAnyH_ready (rs := [10]) (by kernel_rfl) (by simp) ?_
  refine AllReadyH.cons (i := 10) (o := { dst := none, op := Op.store 2 (Operand.tmp 121) (Operand.tmp 120), type := 0, pos := "laws.go:897", after := #[{ on := 9, ground := Ground.data }, { on := 8, ground := Ground.data }, { on := 8, ground := Ground.chain }, { on := 0, ground := Ground.phase }, { on := 1, ground := Ground.phase }, { on := 2, ground := Ground.phase }, { on := 3, ground := Ground.phase }, { on := 4, ground := Ground.phase }, { on := 5, ground := Ground.phase }, { on := 6, ground := Ground.phase }, { on := 7, ground := Ground.phase }, { on := 8, ground := Ground.phase }], guard := none }) rfl (fun K hK => ?_) AllReadyH.nil
  obtain ⟨g9, b9, c9, hg9, eb9, hb9, hbg9, hh9, ⟨y, hy9⟩, hf9, hst9⟩ := (unhide HSW).w3 hL0 hml n2
  cases eb9
  rw [← unhide HS_] at hh9
  have hoo : some (Value.slice (some ⟨g3, 0, none⟩) S_ c3') = some (Value.slice (some ⟨g9, 0, none⟩) S_ c9) := hHeld.2.1.symm.trans hh9
  cases hoo
  have HSW := hide hst9
  have HKI := hide ((unhide HKI).setCell (p := ⟨g3, m, none⟩) hg3.1 (.int .i64 n2))
  have BS_ := hide ((unhide BS_).other (c := g3) (o := m) (v := .int .i64 n2) (by omega))
  clear hst9
  go_simp
  refine hK.out _ _ ⟨(World.cell?_setCell_other _ _ _ _ (fun e => by have := congrArg Addr.block e; simp at this; omega)).trans hHeld.1, (World.cell?_setCell_other _ _ _ _ (fun e => by have := congrArg Addr.block e; simp at this; omega)).trans hHeld.2.1, (World.cell?_setCell_other _ _ _ _ (fun e => by have := congrArg Addr.block e; simp at this; omega)).trans hHeld.2.2.1, (World.cell?_setCell_other _ _ _ _ (fun e => by have := congrArg Addr.block e; simp at this; omega)).trans hHeld.2.2.2⟩ (fun hHeld => ?_)
  clear hK K hHeld
  try simp only [Act.put, List.setIfInBounds_toArray, List.set_cons_zero, List.set_cons_succ]
  clear hy9 hf9
  generalize v4.setCell ⟨g3, m, none⟩ (.int .i64 n2) = vf at HSW HKI BS_ hHeld ⊢
  refine wpAnyH_done (by kernel_rfl) ?_ _
  clear hHeld B1_ B2_ B3_ B4_ BF_ BG_ HFI HK
  have B1_ := hide ((unhide B10).call (unhide HKI))
  have BF_ := hide ((unhide BF0).call (unhide HKI))
  have HK := hide (futP (unhide HKU) (unhide HKI))
  have HFI := hide (And.intro ((unhide HFI0).1.call (unhide HKI)) ((unhide HFI0).2.call (unhide HKI)))
  have q0 := (unhide B1_).1
  have q1 := (unhide B1_).2.1
  have q2 := (unhide B1_).2.2.1
  have q3 := (unhide BF_).1
  have q4 := (unhide BF_).2.1
  have q5 := (unhide BF_).2.2.1
  have q6 := (unhide BS_).1
  have q7 := (unhide BS_).2.1
  have q8 := (unhide BS_).2.2.1
  have hval : hasD vs fs [(nmA, s)] true xs wy is bs (js.set 0 ((js[0]).set m n2)) = true := by
    rw [unhide HEY]
    refine put_has (by rw [← unhide HEY]; rw [unhide HEY]; exact unhide HENV) (unhide HPP) (unhide HF) (unhide H1) ?_ m hL0 hms n2 ⟨na, nb⟩
    have q := unhide H2
    rw [unhide HYS] at q
    exact q
  have kh := iEnvHas_c a1 a2 (some ⟨lt, 0, none⟩) c1 c2 1 vs fs [(nmA, s)] true ox oy cx cy xs wy ia ib (some ⟨b3, 0, none⟩) ja jb jc is bs (js.set 0 ((js[0]).set m n2)) vf ((unhide HRW).1.call (unhide HK)) ((unhide HRW).2.1.call (unhide HK)) ((unhide HRW).2.2.1.call (unhide HK)) ((unhide HRW).2.2.2.1.call (unhide HK)) (unhide HZ) (unhide HFI).1 (unhide HFI).2 (unhide HSW).ints ((unhide HSW).mats (by rw [List.length_set, (unhide HF).2.2.1]; simp))
  rw [hval, List.length_set] at kh
  have KH := hide kh
  clear kh hval
  have HB := hide ((unhide HB).trans ((unhide HK).mono (unhide HB).size))
  go_wp2_with fail
  refine (unhide KH).mono ?_
  rintro e v5 ⟨rfl, kb⟩
  have HB := hide ((unhide HB).trans (kb.mono (unhide HB).size))
  clear kb
  go_wp2
  go_ret
  exact ⟨rfl, unhide HB⟩
end Go.Proofs.YthpnbmdmkmkicaaDoor
