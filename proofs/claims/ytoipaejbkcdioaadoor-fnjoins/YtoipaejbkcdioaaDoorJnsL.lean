/- Joins in whatever order: the walk of the law. -/
import Derived.Test.YtoipaejbkcdioaaDoorJnZ
import Derived.Test.YtoipaejbkcdioaaDoorGrwC
import Derived.Test.YtoipaejbkcdioaaDoorJoiE
import Derived.Test.YtoipaejbkcdioaaDoorJoiG
import Derived.Test.YtoipaejbkcdioaaDoorMeeF
namespace Go.Proofs.YtoipaejbkcdioaaDoor
open Go.RowKit Go.Iv
set_option linter.unusedSimpArgs false
set_option linter.unusedVariables false

set_option maxRecDepth 20000 in
set_option maxHeartbeats 32000000 in
theorem lawJoins (a0 : Option Addr) (len0 cap0 : Nat) (z0 : List Int) (m0 : Option Addr) (len1 cap1 : Nat) (z1 : List Int) (w : World) (hw : KW w) (w0 : IsRow .u8 w a0 len0 cap0 z0) (w1 : IsRow .u8 w m0 len1 cap1 z1) :
    Calls Tryd.prog 6 #[.slice a0 len0 cap0, .slice m0 len1 cap1] w fun e w' => e = .returned (.bool true) ∧ Below w.heap.size w w' := by
  have HW := hide hw
  clear hw
  by_cases hbig : 1048576 < len0
  · have hm := row_len w0
    clear w0 w1
    go_enter Tryd.func6, Tryd.ntmps6
    go_wp2_with fail
    refine (big_yes _ _ _ hbig hm _).mono ?_
    rintro e w' ⟨rfl, rfl⟩
    go_wp2
    go_ret
    exact ⟨rfl, Below.refl _ _⟩
  have hs : len0 ≤ 1048576 := by omega
  have CD := hide (code_of_row w0 hs)
  clear w0 hbig
  by_cases hbig : 1048576 < len1
  · have hm := row_len w1
    clear w1
    go_enter Tryd.func6, Tryd.ntmps6
    go_wp2_with fail
    refine (big_c _ _ _ hs _).mono ?_
    rintro e w' ⟨rfl, rfl⟩
    go_wp2_with fail
    refine (big_yes _ _ _ hbig hm _).mono ?_
    rintro e w' ⟨rfl, rfl⟩
    go_wp2
    go_ret
    exact ⟨rfl, Below.refl _ _⟩
  have hs1 : len1 ≤ 1048576 := by omega
  have CM := hide (code_of_row w1 hs1)
  clear w1 hbig
  go_enter Tryd.func6, Tryd.ntmps6
  go_wp2_with fail
  refine (big_c _ _ _ hs _).mono ?_
  rintro e w' ⟨rfl, hw'⟩
  subst w'
  go_wp2_with fail
  refine (big_c _ _ _ hs1 _).mono ?_
  rintro e w' ⟨rfl, hw'⟩
  subst w'
  go_wp2_with fail
  refine (DrawEnvJoin_c _ _ _ _ (unhide CD)).mono ?_
  rintro e u1 ⟨a1, a2, a3, c1, c2, c3, vs, fs, rs, li, oa, ca, ob, cb, xs, ys, lj, oc, cc, od, cd, xs2, ys2, rfl, s1, s2, s3, hz, ⟨i1, i2⟩, ⟨i3, i4⟩, ⟨_, _, n3, n4⟩, _, kb⟩
  have HRW := hide (show OrR u1 a1 a2 a3 vs fs rs oa ob xs ys oc od xs2 ys2 from ⟨(unhide HW).call kb, s1, s2, s3, i1, i2, i3, i4⟩)
  have HZ := hide hz
  have HB := hide kb
  have HIN := hide (And.intro n3 n4)
  clear s1 s2 s3 hz i1 i2 i3 i4 kb n3 n4
  have HBX := hide (B3.new u1 (.slice a1 vs.length c1) (.slice a2 fs.length c2) (.slice a3 rs.length c3) (.bool li) (.slice oa xs.length ca) (.slice ob ys.length cb) (.bool lj) (.slice oc xs2.length cc) (.slice od ys2.length cd) 27 30 30)
  have ka := (((Below.refl _ u1).alloc (Nat.le_refl _) (Obj.cells #[.slice a1 vs.length c1, .slice a2 fs.length c2, .slice a3 rs.length c3] 27)).alloc (by simp) (Obj.cells #[.bool li, .slice oa xs.length ca, .slice ob ys.length cb] 30)).alloc (by simp; omega) (Obj.cells #[.bool lj, .slice oc xs2.length cc, .slice od ys2.length cd] 30)
  have HRW := hide ((unhide HRW).call ka)
  have HB := hide ((unhide HB).trans (ka.mono (unhide HB).size))
  go_upto_region 4 with fail
  generalize ((u1.alloc (Obj.cells #[.slice a1 vs.length c1, .slice a2 fs.length c2, .slice a3 rs.length c3] 27)).alloc (Obj.cells #[.bool li, .slice oa xs.length ca, .slice ob ys.length cb] 30)).alloc (Obj.cells #[.bool lj, .slice oc xs2.length cc, .slice od ys2.length cd] 30) = u2 at HBX HRW HB ⊢
  clear ka
  have KA : Hid (∀ w, OrR w a1 a2 a3 vs fs rs oa ob xs ys oc od xs2 ys2 → Calls Tryd.prog 12 #[.agg #[.slice a1 vs.length c1, .slice a2 fs.length c2, .slice a3 rs.length c3], .agg #[.bool li, .slice oa xs.length ca, .slice ob ys.length cb]] w fun e w' => e = .returned (.bool (envB vs fs rs li xs ys)) ∧ Below w.heap.size w w') := fun w h => sEnvOk_c a1 a2 a3 c1 c2 c3 vs fs rs li oa ob ca cb xs ys w h.2.1 h.2.2.1 h.2.2.2.1 (unhide HZ) h.2.2.2.2.1 h.2.2.2.2.2.1
  have KB : Hid (∀ w, OrR w a1 a2 a3 vs fs rs oa ob xs ys oc od xs2 ys2 → Calls Tryd.prog 12 #[.agg #[.slice a1 vs.length c1, .slice a2 fs.length c2, .slice a3 rs.length c3], .agg #[.bool lj, .slice oc xs2.length cc, .slice od ys2.length cd]] w fun e w' => e = .returned (.bool (envB vs fs rs lj xs2 ys2)) ∧ Below w.heap.size w w') := fun w h => sEnvOk_c a1 a2 a3 c1 c2 c3 vs fs rs lj oc od cc cd xs2 ys2 w h.2.1 h.2.2.1 h.2.2.2.1 (unhide HZ) h.2.2.2.2.2.2.1 h.2.2.2.2.2.2.2
  have KX : Hid (envB vs fs rs li xs ys = false ∨ envB vs fs rs lj xs2 ys2 = false → ∀ w, OrR w a1 a2 a3 vs fs rs oa ob xs ys oc od xs2 ys2 → Calls Tryd.prog 15 #[.agg #[.slice a1 vs.length c1, .slice a2 fs.length c2, .slice a3 rs.length c3], .agg #[.bool li, .slice oa xs.length ca, .slice ob ys.length cb], .agg #[.bool lj, .slice oc xs2.length cc, .slice od ys2.length cd]] w (Ans3 false [] [] w)) := fun hb w h => by
    have q := iEnvJoin_c a1 a2 a3 c1 c2 c3 vs fs rs li oa ob ca cb xs ys lj oc od cc cd xs2 ys2 w h.1 h.2.1 h.2.2.1 h.2.2.2.1 (unhide HZ) h.2.2.2.2.1 h.2.2.2.2.2.1 h.2.2.2.2.2.2.1 h.2.2.2.2.2.2.2
    rw [(joi_bad hb).1, (joi_bad hb).2] at q
    exact q
  obtain ⟨A, hA⟩ : ∃ A, envB vs fs rs li xs ys = A := ⟨_, rfl⟩
  obtain ⟨B, hB⟩ : ∃ B, envB vs fs rs lj xs2 ys2 = B := ⟨_, rfl⟩
  rw [hA] at KA KX
  rw [hB] at KB KX
  have HA := hide hA
  have HBB := hide hB
  clear hA hB
  have q0 := (unhide HBX).1.1
  have q1 := (unhide HBX).1.2.1
  have q2 := (unhide HBX).1.2.2.1
  have q3 := (unhide HBX).2.1.1
  have q4 := (unhide HBX).2.1.2.1
  have q5 := (unhide HBX).2.1.2.2.1
  have q6 := (unhide HBX).2.2.1.1
  have q7 := (unhide HBX).2.2.1.2.1
  have q8 := (unhide HBX).2.2.1.2.2.1
  go_wp2_with fail
  refine ((unhide KA) _ (unhide HRW)).mono ?_
  rintro e u3 ⟨rfl, kb⟩
  have HBX := hide ((unhide HBX).call kb)
  have HRW := hide ((unhide HRW).call kb)
  have HB := hide ((unhide HB).trans (kb.mono (unhide HB).size))
  clear kb q0 q1 q2 q3 q4 q5 q6 q7 q8
  have q0 := (unhide HBX).1.1
  have q1 := (unhide HBX).1.2.1
  have q2 := (unhide HBX).1.2.2.1
  have q3 := (unhide HBX).2.1.1
  have q4 := (unhide HBX).2.1.2.1
  have q5 := (unhide HBX).2.1.2.2.1
  have q6 := (unhide HBX).2.2.1.1
  have q7 := (unhide HBX).2.2.1.2.1
  have q8 := (unhide HBX).2.2.1.2.2.1
  cases A
  · skip
    go_wp2_with fail
    refine ((unhide KX) (by simp) _ (unhide HRW)).mono ?_
    rintro e u7 ⟨oj, cj, ok, ck, rfl, hre, kb⟩
    have HB := hide ((unhide HB).trans (kb.mono (unhide HB).size))
    clear kb hre q0 q1 q2 q3 q4 q5 q6 q7 q8
    go_wp2_with fail
    refine (same_nil_c oj ok cj ck _).mono ?_
    rintro e u8 ⟨rfl, kb⟩
    have HB := hide ((unhide HB).trans (kb.mono (unhide HB).size))
    clear kb
    go_wp2
    go_ret
    exact ⟨rfl, unhide HB⟩
  go_wp2_with fail
  refine ((unhide KB) _ (unhide HRW)).mono ?_
  rintro e u4 ⟨rfl, kb⟩
  have HBX := hide ((unhide HBX).call kb)
  have HRW := hide ((unhide HRW).call kb)
  have HB := hide ((unhide HB).trans (kb.mono (unhide HB).size))
  clear kb q0 q1 q2 q3 q4 q5 q6 q7 q8
  have q0 := (unhide HBX).1.1
  have q1 := (unhide HBX).1.2.1
  have q2 := (unhide HBX).1.2.2.1
  have q3 := (unhide HBX).2.1.1
  have q4 := (unhide HBX).2.1.2.1
  have q5 := (unhide HBX).2.1.2.2.1
  have q6 := (unhide HBX).2.2.1.1
  have q7 := (unhide HBX).2.2.1.2.1
  have q8 := (unhide HBX).2.2.1.2.2.1
  cases B
  · skip
    go_wp2_with fail
    refine ((unhide KX) (by simp) _ (unhide HRW)).mono ?_
    rintro e u7 ⟨oj, cj, ok, ck, rfl, hre, kb⟩
    have HB := hide ((unhide HB).trans (kb.mono (unhide HB).size))
    clear kb hre q0 q1 q2 q3 q4 q5 q6 q7 q8
    go_wp2_with fail
    refine (same_nil_c oj ok cj ck _).mono ?_
    rintro e u8 ⟨rfl, kb⟩
    have HB := hide ((unhide HB).trans (kb.mono (unhide HB).size))
    clear kb
    go_wp2
    go_ret
    exact ⟨rfl, unhide HB⟩
  clear KX KA KB
  have HCB := hide (C3.new u4 (.bool li) (.slice oa xs.length ca) (.slice ob ys.length cb) 30)
  have HK4 := hide ((Below.refl _ u4).alloc (Nat.le_refl _) (Obj.cells #[.bool li, .slice oa xs.length ca, .slice ob ys.length cb] 30))
  go_upto_region 7 with fail
  generalize u4.alloc (Obj.cells #[.bool li, .slice oa xs.length ca, .slice ob ys.length cb] 30) = u5 at HCB HK4 ⊢
  clear q0 q1 q2 q3 q4 q5 q6 q7 q8
  have q6 := ((unhide HBX).call (unhide HK4)).2.2.1.1
  cases lj
  · skip
    go_upto_region 9 with fail
    clear q6
    have HBX := hide ((unhide HBX).call (unhide HK4))
    have HRW := hide ((unhide HRW).call (unhide HK4))
    have HB := hide ((unhide HB).trans ((unhide HK4).mono (unhide HB).size))
    have HC := HA
    have HCI := hide (And.intro (unhide HRW).2.2.2.2.1 (unhide HRW).2.2.2.2.2.1)
    clear HK4
    obtain ⟨jl, xl, kl, jx, jy, xx, xy, kx, ky, hf⟩ := jnf_of (unhide HA) (unhide HBB) (unhide HC)
    have HF := hide hf
    have LJ := hide hf.2.2.2.2.2.2.1
    have LX := hide hf.2.2.2.2.2.2.2.1
    have LK := hide hf.2.2.2.2.2.2.2.2.1
    have LA := hide hf.2.2.2.2.2.2.2.2.2
    clear hf
    generalize u5 = ub at HBX HRW HB HCB HCI ⊢
    have HBX0 := HBX
    have HP := HCB
    have HQ0 := HCB
    clear HBX HCB
    have KAB : Hid (∀ w, Below ub.heap.size ub w → Calls Tryd.prog 15 #[.agg #[.slice a1 vs.length c1, .slice a2 fs.length c2, .slice a3 rs.length c3], .agg #[.bool li, .slice oa xs.length ca, .slice ob ys.length cb], .agg #[.bool false, .slice oc xs2.length cc, .slice od ys2.length cd]] w (Ans3 jl jx jy w)) := fun w k => by
      have q := iEnvJoin_c a1 a2 a3 c1 c2 c3 vs fs rs li oa ob ca cb xs ys false oc od cc cd xs2 ys2 w ((unhide HRW).1.call k) ((unhide HRW).2.1.call k) ((unhide HRW).2.2.1.call k) ((unhide HRW).2.2.2.1.call k) (unhide HZ) ((unhide HRW).2.2.2.2.1.call k) ((unhide HRW).2.2.2.2.2.1.call k) ((unhide HRW).2.2.2.2.2.2.1.call k) ((unhide HRW).2.2.2.2.2.2.2.call k)
      rw [(unhide HF).1.1, (unhide HF).1.2] at q
      exact q
    have KS : Hid (∀ w, Below ub.heap.size ub w → Calls Tryd.prog 18 #[.agg #[.slice a1 vs.length c1, .slice a2 fs.length c2, .slice a3 rs.length c3], .agg #[.bool li, .slice oa xs.length ca, .slice ob ys.length cb], .agg #[.bool false, .slice oc xs2.length cc, .slice od ys2.length cd]] w (Ans3 jl jx jy w)) := fun w k => by
      have q := sEnvJoin_c a1 a2 a3 c1 c2 c3 vs fs rs li oa ob ca cb xs ys false oc od cc cd xs2 ys2 w ((unhide HRW).2.1.call k) ((unhide HRW).2.2.1.call k) ((unhide HRW).2.2.2.1.call k) (unhide HZ) ((unhide HRW).2.2.2.2.1.call k) ((unhide HRW).2.2.2.2.2.1.call k) ((unhide HRW).2.2.2.2.2.2.1.call k) ((unhide HRW).2.2.2.2.2.2.2.call k)
      rw [(unhide HF).1.1, (unhide HF).1.2] at q
      exact q
    have KABC : Hid (∀ w oj cj ok ck, Below ub.heap.size ub w → Ivs w oj jx ∧ Ivs w ok jy → Calls Tryd.prog 15 #[.agg #[.slice a1 vs.length c1, .slice a2 fs.length c2, .slice a3 rs.length c3], .agg #[.bool jl, .slice oj jx.length cj, .slice ok jy.length ck], .agg #[.bool li, .slice oa xs.length ca, .slice ob ys.length cb]] w (Ans3 xl xx xy w)) := fun w oj cj ok ck k hr => by
      have q := iEnvJoin_c a1 a2 a3 c1 c2 c3 vs fs rs jl oj ok cj ck jx jy li oa ob ca cb xs ys w ((unhide HRW).1.call k) ((unhide HRW).2.1.call k) ((unhide HRW).2.2.1.call k) ((unhide HRW).2.2.2.1.call k) (unhide HZ) hr.1 hr.2 ((unhide HCI).1.call k) ((unhide HCI).2.call k)
      rw [(unhide HF).2.1.1, (unhide HF).2.1.2] at q
      exact q
    have KCB : Hid (∀ w, Below ub.heap.size ub w → Calls Tryd.prog 15 #[.agg #[.slice a1 vs.length c1, .slice a2 fs.length c2, .slice a3 rs.length c3], .agg #[.bool li, .slice oa xs.length ca, .slice ob ys.length cb], .agg #[.bool false, .slice oc xs2.length cc, .slice od ys2.length cd]] w (Ans3 kl kx ky w)) := fun w k => by
      have q := iEnvJoin_c a1 a2 a3 c1 c2 c3 vs fs rs li oa ob ca cb xs ys false oc od cc cd xs2 ys2 w ((unhide HRW).1.call k) ((unhide HRW).2.1.call k) ((unhide HRW).2.2.1.call k) ((unhide HRW).2.2.2.1.call k) (unhide HZ) ((unhide HCI).1.call k) ((unhide HCI).2.call k) ((unhide HRW).2.2.2.2.2.2.1.call k) ((unhide HRW).2.2.2.2.2.2.2.call k)
      rw [(unhide HF).2.2.1.1, (unhide HF).2.2.1.2] at q
      exact q
    have KACB : Hid (∀ w oj cj ok ck, Below ub.heap.size ub w → Ivs w oj kx ∧ Ivs w ok ky → Calls Tryd.prog 15 #[.agg #[.slice a1 vs.length c1, .slice a2 fs.length c2, .slice a3 rs.length c3], .agg #[.bool li, .slice oa xs.length ca, .slice ob ys.length cb], .agg #[.bool kl, .slice oj kx.length cj, .slice ok ky.length ck]] w (Ans3 xl xx xy w)) := fun w oj cj ok ck k hr => by
      have q := iEnvJoin_c a1 a2 a3 c1 c2 c3 vs fs rs li oa ob ca cb xs ys kl oj ok cj ck kx ky w ((unhide HRW).1.call k) ((unhide HRW).2.1.call k) ((unhide HRW).2.2.1.call k) ((unhide HRW).2.2.2.1.call k) (unhide HZ) ((unhide HRW).2.2.2.2.1.call k) ((unhide HRW).2.2.2.2.2.1.call k) hr.1 hr.2
      rw [(unhide HF).2.2.2.1.1, (unhide HF).2.2.2.1.2] at q
      exact q
    have KAA : Hid (∀ w, Below ub.heap.size ub w → Calls Tryd.prog 15 #[.agg #[.slice a1 vs.length c1, .slice a2 fs.length c2, .slice a3 rs.length c3], .agg #[.bool li, .slice oa xs.length ca, .slice ob ys.length cb], .agg #[.bool li, .slice oa xs.length ca, .slice ob ys.length cb]] w (Ans3 li xs ys w)) := fun w k => by
      have q := iEnvJoin_c a1 a2 a3 c1 c2 c3 vs fs rs li oa ob ca cb xs ys li oa ob ca cb xs ys w ((unhide HRW).1.call k) ((unhide HRW).2.1.call k) ((unhide HRW).2.2.1.call k) ((unhide HRW).2.2.2.1.call k) (unhide HZ) ((unhide HRW).2.2.2.2.1.call k) ((unhide HRW).2.2.2.2.2.1.call k) ((unhide HRW).2.2.2.2.1.call k) ((unhide HRW).2.2.2.2.2.1.call k)
      rw [(unhide HF).2.2.2.2.1.1, (unhide HF).2.2.2.2.1.2] at q
      exact q
    have KM : Hid (∀ w oj cj ok ck, Below ub.heap.size ub w → Ivs w oj xx ∧ Ivs w ok xy → Calls Tryd.prog 16 #[.agg #[.slice a1 vs.length c1, .slice a2 fs.length c2, .slice a3 rs.length c3], .agg #[.bool li, .slice oa xs.length ca, .slice ob ys.length cb], .agg #[.bool xl, .slice oj xx.length cj, .slice ok xy.length ck]] w (Ans3 li xs ys w)) := fun w oj cj ok ck k hr => by
      have q := iEnvMeet_c a1 a2 a3 c1 c2 c3 vs fs rs li oa ob ca cb xs ys xl oj ok cj ck xx xy w ((unhide HRW).1.call k) ((unhide HRW).2.1.call k) ((unhide HRW).2.2.1.call k) ((unhide HRW).2.2.2.1.call k) (unhide HZ) ((unhide HRW).2.2.2.2.1.call k) ((unhide HRW).2.2.2.2.2.1.call k) hr.1 hr.2
      rw [(unhide HF).2.2.2.2.2.1.1, (unhide HF).2.2.2.2.2.1.2] at q
      exact q
    have HRA : Hid (∀ w, Below ub.heap.size ub w → Ivs w oa xs ∧ Ivs w ob ys) := fun w k => ⟨((unhide HRW).2.2.2.2.1.call k), ((unhide HRW).2.2.2.2.2.1.call k)⟩
    clear HF HCI HRW HZ HA HBB HC
    go_cut [9] (fun p wc => ∃ g, p = .pointer (some ⟨g, 0, none⟩) ∧ AnB ub g xl xx xy wc)
    case first =>
      have HK := hide (Below.refl ub.heap.size ub).drew
      obtain ⟨wz0, hw0⟩ : ∃ x, x = ub.drew := ⟨_, rfl⟩
      rw [← hw0] at HK
      refine wp_region_held_drew (S := (S15 ub u1.heap.size u4.heap.size u4.heap.size (.slice a1 vs.length c1) (.slice a2 fs.length c2) (.slice a3 rs.length c3) (.bool li) (.slice oa xs.length ca) (.slice ob ys.length cb) (.bool false) (.slice oc xs2.length cc) (.slice od ys2.length cd) (.bool li) (.slice oa xs.length ca) (.slice ob ys.length cb) (.bool li) (.slice oa xs.length ca) (.slice ob ys.length cb))) (by kernel_rfl) (by rw [← hw0]; exact S15.of ((unhide HBX0).1.call (unhide HK)) ((unhide HBX0).2.1.call (unhide HK)) ((unhide HBX0).2.2.1.call (unhide HK)) ((unhide HP).call (unhide HK)) ((unhide HQ0).call (unhide HK)) (unhide HK)) (fun hHeld => ?_)
      rw [← hw0] at hHeld ⊢
      clear hw0
      refine wpAnyH_take (i := 0) (oi := { dst := some 45, op := Op.load 27 (Operand.tmp 5), type := 27, pos := "laws.go:1757", after := #[], guard := none }) (v := ?_) rfl (by kernel_rfl) (by kernel_rfl) (by kernel_rfl) (fun _ _ _ h => h) (Or.inl ⟨by rfl, ?_⟩) (by assumption) ?_
      rotate_left
      · (intro w9 hSw; (try dsimp only at hSw); go_simp; try with_reducible rfl)
      try simp only [Act.put, List.setIfInBounds_toArray, List.set_cons_zero, List.set_cons_succ]
      refine wpAnyH_take (i := 1) (oi := { dst := some 46, op := Op.load 27 (Operand.tmp 5), type := 27, pos := "laws.go:1757", after := #[], guard := none }) (v := ?_) rfl (by kernel_rfl) (by kernel_rfl) (by kernel_rfl) (fun _ _ _ h => h) (Or.inl ⟨by rfl, ?_⟩) (by assumption) ?_
      rotate_left
      · (intro w9 hSw; (try dsimp only at hSw); go_simp; try with_reducible rfl)
      try simp only [Act.put, List.setIfInBounds_toArray, List.set_cons_zero, List.set_cons_succ]
      refine wpAnyH_take (i := 2) (oi := { dst := some 47, op := Op.load 30 (Operand.tmp 6), type := 30, pos := "laws.go:1757", after := #[], guard := none }) (v := ?_) rfl (by kernel_rfl) (by kernel_rfl) (by kernel_rfl) (fun _ _ _ h => h) (Or.inl ⟨by rfl, ?_⟩) (by assumption) ?_
      rotate_left
      · (intro w9 hSw; (try dsimp only at hSw); go_simp; try with_reducible rfl)
      try simp only [Act.put, List.setIfInBounds_toArray, List.set_cons_zero, List.set_cons_succ]
      refine wpAnyH_take (i := 3) (oi := { dst := some 48, op := Op.load 30 (Operand.tmp 7), type := 30, pos := "laws.go:1757", after := #[], guard := none }) (v := ?_) rfl (by kernel_rfl) (by kernel_rfl) (by kernel_rfl) (fun _ _ _ h => h) (Or.inl ⟨by rfl, ?_⟩) (by assumption) ?_
      rotate_left
      · (intro w9 hSw; (try dsimp only at hSw); go_simp; try with_reducible rfl)
      try simp only [Act.put, List.setIfInBounds_toArray, List.set_cons_zero, List.set_cons_succ]
      refine wpAnyH_take (i := 5) (oi := { dst := some 50, op := Op.load 30 (Operand.tmp 8), type := 30, pos := "laws.go:1757", after := #[], guard := none }) (v := ?_) rfl (by kernel_rfl) (by kernel_rfl) (by kernel_rfl) (fun _ _ _ h => h) (Or.inl ⟨by rfl, ?_⟩) (by assumption) ?_
      rotate_left
      · (intro w9 hSw; (try dsimp only at hSw); go_simp; try with_reducible rfl)
      try simp only [Act.put, List.setIfInBounds_toArray, List.set_cons_zero, List.set_cons_succ]
      refine wpAnyH_ready (rs := [4, 7]) (by kernel_rfl) (by simp) ?_
      refine AllReadyH.cons (i := 4) (o := { dst := some 49, op := Op.call { callee := Callee.value (Operand.func 15), args := #[Operand.tmp 46, Operand.tmp 47, Operand.tmp 48], argTypes := #[27, 30, 30] }, type := 30, pos := "laws.go:1757", after := #[{ on := 1, ground := Ground.data }, { on := 2, ground := Ground.data }, { on := 3, ground := Ground.data }], guard := none }) rfl (fun K hK => ?_) (AllReadyH.cons (i := 7) (o := { dst := some 9, op := Op.alloc 30, type := 0, pos := "laws.go:1757", after := #[], guard := none }) rfl (fun K hK => ?_) AllReadyH.nil)
      · skip
        go_simp
        refine ((unhide KAB) _ (unhide HK)).mono ?_
        rintro e wz1 ⟨oj, cj, ok, ck, rfl, hre, kb⟩
        have HK := hide (fut_trans (unhide HK) kb)
        have HJ := hide (hre.ivs (by have := unhide LJ; omega))
        clear hre
        clear kb
        have hq := S15.of ((unhide HBX0).1.call (unhide HK)) ((unhide HBX0).2.1.call (unhide HK)) ((unhide HBX0).2.2.1.call (unhide HK)) ((unhide HP).call (unhide HK)) ((unhide HQ0).call (unhide HK)) (unhide HK)
        clear hHeld
        refine hK.out _ _ hq (fun hHeld => ?_)
        clear hK K hq
        try simp only [Act.put, List.setIfInBounds_toArray, List.set_cons_zero, List.set_cons_succ]
        refine wpAnyH_ready (rs := [6, 7]) (by kernel_rfl) (by simp) ?_
        refine AllReadyH.cons (i := 6) (o := { dst := some 51, op := Op.call { callee := Callee.value (Operand.func 15), args := #[Operand.tmp 45, Operand.tmp 49, Operand.tmp 50], argTypes := #[27, 30, 30] }, type := 30, pos := "laws.go:1757", after := #[{ on := 0, ground := Ground.data }, { on := 4, ground := Ground.data }, { on := 5, ground := Ground.data }, { on := 4, ground := Ground.chain }], guard := none }) rfl (fun K hK => ?_) (AllReadyH.cons (i := 7) (o := { dst := some 9, op := Op.alloc 30, type := 0, pos := "laws.go:1757", after := #[], guard := none }) rfl (fun K hK => ?_) AllReadyH.nil)
        · skip
          go_simp
          refine ((unhide KABC) _ _ _ _ _ (unhide HK) (unhide HJ)).mono ?_
          rintro e wz2 ⟨oj, cj, ok, ck, rfl, hre, kb⟩
          have HK := hide (fut_trans (unhide HK) kb)
          have HR := RowsT.of hre
          generalize wz1.heap.size = Bz at HR
          generalize wz2.heap.size = Tz at HR
          have HR := hide HR
          clear hre HJ
          clear kb
          have hq := S15.of ((unhide HBX0).1.call (unhide HK)) ((unhide HBX0).2.1.call (unhide HK)) ((unhide HBX0).2.2.1.call (unhide HK)) ((unhide HP).call (unhide HK)) ((unhide HQ0).call (unhide HK)) (unhide HK)
          clear hHeld
          refine hK.out _ _ hq (fun hHeld => ?_)
          clear hK K hq
          try simp only [Act.put, List.setIfInBounds_toArray, List.set_cons_zero, List.set_cons_succ]
          refine wpAnyH_ready (rs := [7]) (by kernel_rfl) (by simp) ?_
          refine AllReadyH.cons (i := 7) (o := { dst := some 9, op := Op.alloc 30, type := 0, pos := "laws.go:1757", after := #[], guard := none }) rfl (fun K hK => ?_) AllReadyH.nil
          have HN := C3.new wz2 (.bool false) (.slice none 0 0) (.slice none 0 0) 30
          have hlg : ub.heap.size ≤ wz2.heap.size := (unhide HK).size
          have hn : Tz ≤ wz2.heap.size := (unhide HR).2.2.2
          have ka := (Below.refl _ wz2).alloc (Nat.le_refl _) (Obj.cells #[.bool false, .slice none 0 0, .slice none 0 0] 30)
          have HK := hide (fut_trans (unhide HK) ka)
          have HR := hide ((unhide HR).call ka)
          clear ka
          have hq := S15.of ((unhide HBX0).1.call (unhide HK)) ((unhide HBX0).2.1.call (unhide HK)) ((unhide HBX0).2.2.1.call (unhide HK)) ((unhide HP).call (unhide HK)) ((unhide HQ0).call (unhide HK)) (unhide HK)
          go_simp
          clear hHeld
          refine hK.out _ _ hq (fun hHeld => ?_)
          clear hK K hq
          try simp only [Act.put, List.setIfInBounds_toArray, List.set_cons_zero, List.set_cons_succ]
          clear hHeld
          generalize wz2.alloc (Obj.cells #[.bool false, .slice none 0 0, .slice none 0 0] 30) = wz3 at HN HK HR ⊢
          generalize wz2.heap.size = pn at HN hlg hn ⊢
          have HN := hide HN
          have HLG := hide hlg
          have HE : Hid (pn < Bz ∨ Tz ≤ pn) := Or.inr hn
          clear hlg hn
          have hHeld := S15.of ((unhide HBX0).1.call (unhide HK)) ((unhide HBX0).2.1.call (unhide HK)) ((unhide HBX0).2.2.1.call (unhide HK)) ((unhide HP).call (unhide HK)) ((unhide HQ0).call (unhide HK)) (unhide HK)
          refine wpAnyH_ready (rs := [8]) (by kernel_rfl) (by simp) ?_
          refine AllReadyH.cons (i := 8) (o := { dst := none, op := Op.store 30 (Operand.tmp 9) (Operand.tmp 51), type := 0, pos := "laws.go:1757", after := #[{ on := 7, ground := Ground.data }, { on := 6, ground := Ground.data }, { on := 6, ground := Ground.chain }, { on := 0, ground := Ground.phase }, { on := 1, ground := Ground.phase }, { on := 2, ground := Ground.phase }, { on := 3, ground := Ground.phase }, { on := 4, ground := Ground.phase }, { on := 5, ground := Ground.phase }, { on := 6, ground := Ground.phase }, { on := 7, ground := Ground.phase }], guard := none }) rfl (fun K hK => ?_) AllReadyH.nil
          have hAB := AnB.of (l := xl) (unhide HK) (unhide HLG) (unhide HN) (unhide HR) (unhide HE) (unhide LX)
          have HAB := hide hAB
          clear hAB
          obtain ⟨c0, c1_, c2_, cf⟩ := unhide HN
          have f0 := cf 0
          have f1 := cf 1
          have f2 := cf 2
          clear cf
          go_simp
          have hq := S15.of ((unhide HBX0).1.call (unhide HAB).1) ((unhide HBX0).2.1.call (unhide HAB).1) ((unhide HBX0).2.2.1.call (unhide HAB).1) ((unhide HP).call (unhide HAB).1) ((unhide HQ0).call (unhide HAB).1) (unhide HAB).1
          clear hHeld
          refine hK.out _ _ hq (fun hHeld => ?_)
          clear hK K hq c0 c1_ c2_ f0 f1 f2 hHeld
          try simp only [Act.put, List.setIfInBounds_toArray, List.set_cons_zero, List.set_cons_succ]
          refine wpAnyH_done (by kernel_rfl) ?_ _
          go_wp2_with fail
          go_meet
          exact ⟨pn, rfl, unhide HAB⟩
        · skip
          have HN := C3.new wz1 (.bool false) (.slice none 0 0) (.slice none 0 0) 30
          have hlg : ub.heap.size ≤ wz1.heap.size := (unhide HK).size
          have ka := (Below.refl _ wz1).alloc (Nat.le_refl _) (Obj.cells #[.bool false, .slice none 0 0, .slice none 0 0] 30)
          have HK := hide (fut_trans (unhide HK) ka)
          have HJ := hide (And.intro ((unhide HJ).1.call ka) ((unhide HJ).2.call ka))
          clear ka
          have hq := S15.of ((unhide HBX0).1.call (unhide HK)) ((unhide HBX0).2.1.call (unhide HK)) ((unhide HBX0).2.2.1.call (unhide HK)) ((unhide HP).call (unhide HK)) ((unhide HQ0).call (unhide HK)) (unhide HK)
          go_simp
          clear hHeld
          refine hK.out _ _ hq (fun hHeld => ?_)
          clear hK K hq
          try simp only [Act.put, List.setIfInBounds_toArray, List.set_cons_zero, List.set_cons_succ]
          clear hHeld
          generalize wz1.alloc (Obj.cells #[.bool false, .slice none 0 0, .slice none 0 0] 30) = wz2 at HN HK HJ ⊢
          generalize wz1.heap.size = pn at HN hlg ⊢
          have HN := hide HN
          have HLG := hide hlg
          clear hlg
          have hHeld := S15.of ((unhide HBX0).1.call (unhide HK)) ((unhide HBX0).2.1.call (unhide HK)) ((unhide HBX0).2.2.1.call (unhide HK)) ((unhide HP).call (unhide HK)) ((unhide HQ0).call (unhide HK)) (unhide HK)
          refine wpAnyH_ready (rs := [6]) (by kernel_rfl) (by simp) ?_
          refine AllReadyH.cons (i := 6) (o := { dst := some 51, op := Op.call { callee := Callee.value (Operand.func 15), args := #[Operand.tmp 45, Operand.tmp 49, Operand.tmp 50], argTypes := #[27, 30, 30] }, type := 30, pos := "laws.go:1757", after := #[{ on := 0, ground := Ground.data }, { on := 4, ground := Ground.data }, { on := 5, ground := Ground.data }, { on := 4, ground := Ground.chain }], guard := none }) rfl (fun K hK => ?_) AllReadyH.nil
          go_simp
          refine ((unhide KABC) _ _ _ _ _ (unhide HK) (unhide HJ)).mono ?_
          rintro e wz3 ⟨oj, cj, ok, ck, rfl, hre, kb⟩
          have hn : pn < wz2.heap.size := (unhide HN).lt
          have HK := hide (fut_trans (unhide HK) kb)
          have HN := hide ((unhide HN).call kb)
          have HR := RowsT.of hre
          generalize wz2.heap.size = Bz at HR hn
          generalize wz3.heap.size = Tz at HR
          have HR := hide HR
          have HE : Hid (pn < Bz ∨ Tz ≤ pn) := Or.inl hn
          clear hre HJ hn
          clear kb
          have hq := S15.of ((unhide HBX0).1.call (unhide HK)) ((unhide HBX0).2.1.call (unhide HK)) ((unhide HBX0).2.2.1.call (unhide HK)) ((unhide HP).call (unhide HK)) ((unhide HQ0).call (unhide HK)) (unhide HK)
          clear hHeld
          refine hK.out _ _ hq (fun hHeld => ?_)
          clear hK K hq
          try simp only [Act.put, List.setIfInBounds_toArray, List.set_cons_zero, List.set_cons_succ]
          refine wpAnyH_ready (rs := [8]) (by kernel_rfl) (by simp) ?_
          refine AllReadyH.cons (i := 8) (o := { dst := none, op := Op.store 30 (Operand.tmp 9) (Operand.tmp 51), type := 0, pos := "laws.go:1757", after := #[{ on := 7, ground := Ground.data }, { on := 6, ground := Ground.data }, { on := 6, ground := Ground.chain }, { on := 0, ground := Ground.phase }, { on := 1, ground := Ground.phase }, { on := 2, ground := Ground.phase }, { on := 3, ground := Ground.phase }, { on := 4, ground := Ground.phase }, { on := 5, ground := Ground.phase }, { on := 6, ground := Ground.phase }, { on := 7, ground := Ground.phase }], guard := none }) rfl (fun K hK => ?_) AllReadyH.nil
          have hAB := AnB.of (l := xl) (unhide HK) (unhide HLG) (unhide HN) (unhide HR) (unhide HE) (unhide LX)
          have HAB := hide hAB
          clear hAB
          obtain ⟨c0, c1_, c2_, cf⟩ := unhide HN
          have f0 := cf 0
          have f1 := cf 1
          have f2 := cf 2
          clear cf
          go_simp
          have hq := S15.of ((unhide HBX0).1.call (unhide HAB).1) ((unhide HBX0).2.1.call (unhide HAB).1) ((unhide HBX0).2.2.1.call (unhide HAB).1) ((unhide HP).call (unhide HAB).1) ((unhide HQ0).call (unhide HAB).1) (unhide HAB).1
          clear hHeld
          refine hK.out _ _ hq (fun hHeld => ?_)
          clear hK K hq c0 c1_ c2_ f0 f1 f2 hHeld
          try simp only [Act.put, List.setIfInBounds_toArray, List.set_cons_zero, List.set_cons_succ]
          refine wpAnyH_done (by kernel_rfl) ?_ _
          go_wp2_with fail
          go_meet
          exact ⟨pn, rfl, unhide HAB⟩
      · skip
        have HN := C3.new wz0 (.bool false) (.slice none 0 0) (.slice none 0 0) 30
        have hlg : ub.heap.size ≤ wz0.heap.size := (unhide HK).size
        have ka := (Below.refl _ wz0).alloc (Nat.le_refl _) (Obj.cells #[.bool false, .slice none 0 0, .slice none 0 0] 30)
        have HK := hide (fut_trans (unhide HK) ka)
        clear ka
        have hq := S15.of ((unhide HBX0).1.call (unhide HK)) ((unhide HBX0).2.1.call (unhide HK)) ((unhide HBX0).2.2.1.call (unhide HK)) ((unhide HP).call (unhide HK)) ((unhide HQ0).call (unhide HK)) (unhide HK)
        go_simp
        clear hHeld
        refine hK.out _ _ hq (fun hHeld => ?_)
        clear hK K hq
        try simp only [Act.put, List.setIfInBounds_toArray, List.set_cons_zero, List.set_cons_succ]
        clear hHeld
        generalize wz0.alloc (Obj.cells #[.bool false, .slice none 0 0, .slice none 0 0] 30) = wz1 at HN HK ⊢
        generalize wz0.heap.size = pn at HN hlg ⊢
        have HN := hide HN
        have HLG := hide hlg
        clear hlg
        have hHeld := S15.of ((unhide HBX0).1.call (unhide HK)) ((unhide HBX0).2.1.call (unhide HK)) ((unhide HBX0).2.2.1.call (unhide HK)) ((unhide HP).call (unhide HK)) ((unhide HQ0).call (unhide HK)) (unhide HK)
        refine wpAnyH_ready (rs := [4]) (by kernel_rfl) (by simp) ?_
        refine AllReadyH.cons (i := 4) (o := { dst := some 49, op := Op.call { callee := Callee.value (Operand.func 15), args := #[Operand.tmp 46, Operand.tmp 47, Operand.tmp 48], argTypes := #[27, 30, 30] }, type := 30, pos := "laws.go:1757", after := #[{ on := 1, ground := Ground.data }, { on := 2, ground := Ground.data }, { on := 3, ground := Ground.data }], guard := none }) rfl (fun K hK => ?_) AllReadyH.nil
        go_simp
        refine ((unhide KAB) _ (unhide HK)).mono ?_
        rintro e wz2 ⟨oj, cj, ok, ck, rfl, hre, kb⟩
        have hn : pn < wz1.heap.size := (unhide HN).lt
        have HK := hide (fut_trans (unhide HK) kb)
        have HN := hide ((unhide HN).call kb)
        have HJ := hide (hre.ivs (by have := unhide LJ; omega))
        clear hre hn
        clear kb
        have hq := S15.of ((unhide HBX0).1.call (unhide HK)) ((unhide HBX0).2.1.call (unhide HK)) ((unhide HBX0).2.2.1.call (unhide HK)) ((unhide HP).call (unhide HK)) ((unhide HQ0).call (unhide HK)) (unhide HK)
        clear hHeld
        refine hK.out _ _ hq (fun hHeld => ?_)
        clear hK K hq
        try simp only [Act.put, List.setIfInBounds_toArray, List.set_cons_zero, List.set_cons_succ]
        refine wpAnyH_ready (rs := [6]) (by kernel_rfl) (by simp) ?_
        refine AllReadyH.cons (i := 6) (o := { dst := some 51, op := Op.call { callee := Callee.value (Operand.func 15), args := #[Operand.tmp 45, Operand.tmp 49, Operand.tmp 50], argTypes := #[27, 30, 30] }, type := 30, pos := "laws.go:1757", after := #[{ on := 0, ground := Ground.data }, { on := 4, ground := Ground.data }, { on := 5, ground := Ground.data }, { on := 4, ground := Ground.chain }], guard := none }) rfl (fun K hK => ?_) AllReadyH.nil
        go_simp
        refine ((unhide KABC) _ _ _ _ _ (unhide HK) (unhide HJ)).mono ?_
        rintro e wz3 ⟨oj, cj, ok, ck, rfl, hre, kb⟩
        have hn : pn < wz2.heap.size := (unhide HN).lt
        have HK := hide (fut_trans (unhide HK) kb)
        have HN := hide ((unhide HN).call kb)
        have HR := RowsT.of hre
        generalize wz2.heap.size = Bz at HR hn
        generalize wz3.heap.size = Tz at HR
        have HR := hide HR
        have HE : Hid (pn < Bz ∨ Tz ≤ pn) := Or.inl hn
        clear hre HJ hn
        clear kb
        have hq := S15.of ((unhide HBX0).1.call (unhide HK)) ((unhide HBX0).2.1.call (unhide HK)) ((unhide HBX0).2.2.1.call (unhide HK)) ((unhide HP).call (unhide HK)) ((unhide HQ0).call (unhide HK)) (unhide HK)
        clear hHeld
        refine hK.out _ _ hq (fun hHeld => ?_)
        clear hK K hq
        try simp only [Act.put, List.setIfInBounds_toArray, List.set_cons_zero, List.set_cons_succ]
        refine wpAnyH_ready (rs := [8]) (by kernel_rfl) (by simp) ?_
        refine AllReadyH.cons (i := 8) (o := { dst := none, op := Op.store 30 (Operand.tmp 9) (Operand.tmp 51), type := 0, pos := "laws.go:1757", after := #[{ on := 7, ground := Ground.data }, { on := 6, ground := Ground.data }, { on := 6, ground := Ground.chain }, { on := 0, ground := Ground.phase }, { on := 1, ground := Ground.phase }, { on := 2, ground := Ground.phase }, { on := 3, ground := Ground.phase }, { on := 4, ground := Ground.phase }, { on := 5, ground := Ground.phase }, { on := 6, ground := Ground.phase }, { on := 7, ground := Ground.phase }], guard := none }) rfl (fun K hK => ?_) AllReadyH.nil
        have hAB := AnB.of (l := xl) (unhide HK) (unhide HLG) (unhide HN) (unhide HR) (unhide HE) (unhide LX)
        have HAB := hide hAB
        clear hAB
        obtain ⟨c0, c1_, c2_, cf⟩ := unhide HN
        have f0 := cf 0
        have f1 := cf 1
        have f2 := cf 2
        clear cf
        go_simp
        have hq := S15.of ((unhide HBX0).1.call (unhide HAB).1) ((unhide HBX0).2.1.call (unhide HAB).1) ((unhide HBX0).2.2.1.call (unhide HAB).1) ((unhide HP).call (unhide HAB).1) ((unhide HQ0).call (unhide HAB).1) (unhide HAB).1
        clear hHeld
        refine hK.out _ _ hq (fun hHeld => ?_)
        clear hK K hq c0 c1_ c2_ f0 f1 f2 hHeld
        try simp only [Act.put, List.setIfInBounds_toArray, List.set_cons_zero, List.set_cons_succ]
        refine wpAnyH_done (by kernel_rfl) ?_ _
        go_wp2_with fail
        go_meet
        exact ⟨pn, rfl, unhide HAB⟩
    case rest =>
      obtain ⟨gx, rfl, hab⟩ := hcut
      have HAX := hide hab
      clear hab
      generalize wc = v1 at HAX ⊢
      have HBX1 := hide (show C3 v1 _ _ _ _ ∧ C3 v1 _ _ _ _ ∧ C3 v1 _ _ _ _ from ⟨(unhide HBX0).1.call (unhide HAX).1, (unhide HBX0).2.1.call (unhide HAX).1, (unhide HBX0).2.2.1.call (unhide HAX).1⟩)
      have HP := hide ((unhide HP).call (unhide HAX).1)
      have HQ0 := HP
      go_upto_region 10 with fail
      go_cut [10] (fun p wc => ∃ g, p = .pointer (some ⟨g, 0, none⟩) ∧ AnB v1 g xl xx xy wc)
      case first =>
        have HBX0 := hide (show _ ∧ _ ∧ C3 v1 (u1.heap.size + 2) _ _ _ ∧ True from ⟨(unhide HBX1).1, (unhide HBX1).2.1, (unhide HBX1).2.2, trivial⟩)
        have HK := hide (Below.refl v1.heap.size v1).drew
        obtain ⟨wz0, hw0⟩ : ∃ x, x = v1.drew := ⟨_, rfl⟩
        rw [← hw0] at HK
        refine wp_region_held_drew (S := (S15 v1 u1.heap.size u4.heap.size u4.heap.size (.slice a1 vs.length c1) (.slice a2 fs.length c2) (.slice a3 rs.length c3) (.bool li) (.slice oa xs.length ca) (.slice ob ys.length cb) (.bool false) (.slice oc xs2.length cc) (.slice od ys2.length cd) (.bool li) (.slice oa xs.length ca) (.slice ob ys.length cb) (.bool li) (.slice oa xs.length ca) (.slice ob ys.length cb))) (by kernel_rfl) (by rw [← hw0]; exact S15.of ((unhide HBX0).1.call (unhide HK)) ((unhide HBX0).2.1.call (unhide HK)) ((unhide HBX0).2.2.1.call (unhide HK)) ((unhide HP).call (unhide HK)) ((unhide HQ0).call (unhide HK)) (unhide HK)) (fun hHeld => ?_)
        rw [← hw0] at hHeld ⊢
        clear hw0
        refine wpAnyH_take (i := 0) (oi := { dst := some 52, op := Op.load 27 (Operand.tmp 5), type := 27, pos := "laws.go:1758", after := #[], guard := none }) (v := ?_) rfl (by kernel_rfl) (by kernel_rfl) (by kernel_rfl) (fun _ _ _ h => h) (Or.inl ⟨by rfl, ?_⟩) (by assumption) ?_
        rotate_left
        · (intro w9 hSw; (try dsimp only at hSw); go_simp; try with_reducible rfl)
        try simp only [Act.put, List.setIfInBounds_toArray, List.set_cons_zero, List.set_cons_succ]
        refine wpAnyH_take (i := 1) (oi := { dst := some 53, op := Op.load 30 (Operand.tmp 6), type := 30, pos := "laws.go:1758", after := #[], guard := none }) (v := ?_) rfl (by kernel_rfl) (by kernel_rfl) (by kernel_rfl) (fun _ _ _ h => h) (Or.inl ⟨by rfl, ?_⟩) (by assumption) ?_
        rotate_left
        · (intro w9 hSw; (try dsimp only at hSw); go_simp; try with_reducible rfl)
        try simp only [Act.put, List.setIfInBounds_toArray, List.set_cons_zero, List.set_cons_succ]
        refine wpAnyH_take (i := 2) (oi := { dst := some 54, op := Op.load 27 (Operand.tmp 5), type := 27, pos := "laws.go:1758", after := #[], guard := none }) (v := ?_) rfl (by kernel_rfl) (by kernel_rfl) (by kernel_rfl) (fun _ _ _ h => h) (Or.inl ⟨by rfl, ?_⟩) (by assumption) ?_
        rotate_left
        · (intro w9 hSw; (try dsimp only at hSw); go_simp; try with_reducible rfl)
        try simp only [Act.put, List.setIfInBounds_toArray, List.set_cons_zero, List.set_cons_succ]
        refine wpAnyH_take (i := 3) (oi := { dst := some 55, op := Op.load 30 (Operand.tmp 8), type := 30, pos := "laws.go:1758", after := #[], guard := none }) (v := ?_) rfl (by kernel_rfl) (by kernel_rfl) (by kernel_rfl) (fun _ _ _ h => h) (Or.inl ⟨by rfl, ?_⟩) (by assumption) ?_
        rotate_left
        · (intro w9 hSw; (try dsimp only at hSw); go_simp; try with_reducible rfl)
        try simp only [Act.put, List.setIfInBounds_toArray, List.set_cons_zero, List.set_cons_succ]
        refine wpAnyH_take (i := 4) (oi := { dst := some 56, op := Op.load 30 (Operand.tmp 7), type := 30, pos := "laws.go:1758", after := #[], guard := none }) (v := ?_) rfl (by kernel_rfl) (by kernel_rfl) (by kernel_rfl) (fun _ _ _ h => h) (Or.inl ⟨by rfl, ?_⟩) (by assumption) ?_
        rotate_left
        · (intro w9 hSw; (try dsimp only at hSw); go_simp; try with_reducible rfl)
        try simp only [Act.put, List.setIfInBounds_toArray, List.set_cons_zero, List.set_cons_succ]
        refine wpAnyH_ready (rs := [5, 7]) (by kernel_rfl) (by simp) ?_
        refine AllReadyH.cons (i := 5) (o := { dst := some 57, op := Op.call { callee := Callee.value (Operand.func 15), args := #[Operand.tmp 54, Operand.tmp 55, Operand.tmp 56], argTypes := #[27, 30, 30] }, type := 30, pos := "laws.go:1758", after := #[{ on := 2, ground := Ground.data }, { on := 3, ground := Ground.data }, { on := 4, ground := Ground.data }], guard := none }) rfl (fun K hK => ?_) (AllReadyH.cons (i := 7) (o := { dst := some 10, op := Op.alloc 30, type := 0, pos := "laws.go:1758", after := #[], guard := none }) rfl (fun K hK => ?_) AllReadyH.nil)
        · skip
          go_simp
          refine ((unhide KCB) _ (fut_trans (unhide HAX).1 (unhide HK))).mono ?_
          rintro e wz1 ⟨oj, cj, ok, ck, rfl, hre, kb⟩
          have HK := hide (fut_trans (unhide HK) kb)
          have HJ := hide (hre.ivs (by have := unhide LK; omega))
          clear hre
          clear kb
          have hq := S15.of ((unhide HBX0).1.call (unhide HK)) ((unhide HBX0).2.1.call (unhide HK)) ((unhide HBX0).2.2.1.call (unhide HK)) ((unhide HP).call (unhide HK)) ((unhide HQ0).call (unhide HK)) (unhide HK)
          clear hHeld
          refine hK.out _ _ hq (fun hHeld => ?_)
          clear hK K hq
          try simp only [Act.put, List.setIfInBounds_toArray, List.set_cons_zero, List.set_cons_succ]
          refine wpAnyH_ready (rs := [6, 7]) (by kernel_rfl) (by simp) ?_
          refine AllReadyH.cons (i := 6) (o := { dst := some 58, op := Op.call { callee := Callee.value (Operand.func 15), args := #[Operand.tmp 52, Operand.tmp 53, Operand.tmp 57], argTypes := #[27, 30, 30] }, type := 30, pos := "laws.go:1758", after := #[{ on := 0, ground := Ground.data }, { on := 1, ground := Ground.data }, { on := 5, ground := Ground.data }, { on := 5, ground := Ground.chain }], guard := none }) rfl (fun K hK => ?_) (AllReadyH.cons (i := 7) (o := { dst := some 10, op := Op.alloc 30, type := 0, pos := "laws.go:1758", after := #[], guard := none }) rfl (fun K hK => ?_) AllReadyH.nil)
          · skip
            go_simp
            refine ((unhide KACB) _ _ _ _ _ (fut_trans (unhide HAX).1 (unhide HK)) (unhide HJ)).mono ?_
            rintro e wz2 ⟨oj, cj, ok, ck, rfl, hre, kb⟩
            have HK := hide (fut_trans (unhide HK) kb)
            have HR := RowsT.of hre
            generalize wz1.heap.size = Bz at HR
            generalize wz2.heap.size = Tz at HR
            have HR := hide HR
            clear hre HJ
            clear kb
            have hq := S15.of ((unhide HBX0).1.call (unhide HK)) ((unhide HBX0).2.1.call (unhide HK)) ((unhide HBX0).2.2.1.call (unhide HK)) ((unhide HP).call (unhide HK)) ((unhide HQ0).call (unhide HK)) (unhide HK)
            clear hHeld
            refine hK.out _ _ hq (fun hHeld => ?_)
            clear hK K hq
            try simp only [Act.put, List.setIfInBounds_toArray, List.set_cons_zero, List.set_cons_succ]
            refine wpAnyH_ready (rs := [7]) (by kernel_rfl) (by simp) ?_
            refine AllReadyH.cons (i := 7) (o := { dst := some 10, op := Op.alloc 30, type := 0, pos := "laws.go:1758", after := #[], guard := none }) rfl (fun K hK => ?_) AllReadyH.nil
            have HN := C3.new wz2 (.bool false) (.slice none 0 0) (.slice none 0 0) 30
            have hlg : v1.heap.size ≤ wz2.heap.size := (unhide HK).size
            have hn : Tz ≤ wz2.heap.size := (unhide HR).2.2.2
            have ka := (Below.refl _ wz2).alloc (Nat.le_refl _) (Obj.cells #[.bool false, .slice none 0 0, .slice none 0 0] 30)
            have HK := hide (fut_trans (unhide HK) ka)
            have HR := hide ((unhide HR).call ka)
            clear ka
            have hq := S15.of ((unhide HBX0).1.call (unhide HK)) ((unhide HBX0).2.1.call (unhide HK)) ((unhide HBX0).2.2.1.call (unhide HK)) ((unhide HP).call (unhide HK)) ((unhide HQ0).call (unhide HK)) (unhide HK)
            go_simp
            clear hHeld
            refine hK.out _ _ hq (fun hHeld => ?_)
            clear hK K hq
            try simp only [Act.put, List.setIfInBounds_toArray, List.set_cons_zero, List.set_cons_succ]
            clear hHeld
            generalize wz2.alloc (Obj.cells #[.bool false, .slice none 0 0, .slice none 0 0] 30) = wz3 at HN HK HR ⊢
            generalize wz2.heap.size = pn at HN hlg hn ⊢
            have HN := hide HN
            have HLG := hide hlg
            have HE : Hid (pn < Bz ∨ Tz ≤ pn) := Or.inr hn
            clear hlg hn
            have hHeld := S15.of ((unhide HBX0).1.call (unhide HK)) ((unhide HBX0).2.1.call (unhide HK)) ((unhide HBX0).2.2.1.call (unhide HK)) ((unhide HP).call (unhide HK)) ((unhide HQ0).call (unhide HK)) (unhide HK)
            refine wpAnyH_ready (rs := [8]) (by kernel_rfl) (by simp) ?_
            refine AllReadyH.cons (i := 8) (o := { dst := none, op := Op.store 30 (Operand.tmp 10) (Operand.tmp 58), type := 0, pos := "laws.go:1758", after := #[{ on := 7, ground := Ground.data }, { on := 6, ground := Ground.data }, { on := 6, ground := Ground.chain }, { on := 0, ground := Ground.phase }, { on := 1, ground := Ground.phase }, { on := 2, ground := Ground.phase }, { on := 3, ground := Ground.phase }, { on := 4, ground := Ground.phase }, { on := 5, ground := Ground.phase }, { on := 6, ground := Ground.phase }, { on := 7, ground := Ground.phase }], guard := none }) rfl (fun K hK => ?_) AllReadyH.nil
            have hAB := AnB.of (l := xl) (unhide HK) (unhide HLG) (unhide HN) (unhide HR) (unhide HE) (unhide LX)
            have HAB := hide hAB
            clear hAB
            obtain ⟨c0, c1_, c2_, cf⟩ := unhide HN
            have f0 := cf 0
            have f1 := cf 1
            have f2 := cf 2
            clear cf
            go_simp
            have hq := S15.of ((unhide HBX0).1.call (unhide HAB).1) ((unhide HBX0).2.1.call (unhide HAB).1) ((unhide HBX0).2.2.1.call (unhide HAB).1) ((unhide HP).call (unhide HAB).1) ((unhide HQ0).call (unhide HAB).1) (unhide HAB).1
            clear hHeld
            refine hK.out _ _ hq (fun hHeld => ?_)
            clear hK K hq c0 c1_ c2_ f0 f1 f2 hHeld
            try simp only [Act.put, List.setIfInBounds_toArray, List.set_cons_zero, List.set_cons_succ]
            refine wpAnyH_done (by kernel_rfl) ?_ _
            go_wp2_with fail
            go_meet
            exact ⟨pn, rfl, unhide HAB⟩
          · skip
            have HN := C3.new wz1 (.bool false) (.slice none 0 0) (.slice none 0 0) 30
            have hlg : v1.heap.size ≤ wz1.heap.size := (unhide HK).size
            have ka := (Below.refl _ wz1).alloc (Nat.le_refl _) (Obj.cells #[.bool false, .slice none 0 0, .slice none 0 0] 30)
            have HK := hide (fut_trans (unhide HK) ka)
            have HJ := hide (And.intro ((unhide HJ).1.call ka) ((unhide HJ).2.call ka))
            clear ka
            have hq := S15.of ((unhide HBX0).1.call (unhide HK)) ((unhide HBX0).2.1.call (unhide HK)) ((unhide HBX0).2.2.1.call (unhide HK)) ((unhide HP).call (unhide HK)) ((unhide HQ0).call (unhide HK)) (unhide HK)
            go_simp
            clear hHeld
            refine hK.out _ _ hq (fun hHeld => ?_)
            clear hK K hq
            try simp only [Act.put, List.setIfInBounds_toArray, List.set_cons_zero, List.set_cons_succ]
            clear hHeld
            generalize wz1.alloc (Obj.cells #[.bool false, .slice none 0 0, .slice none 0 0] 30) = wz2 at HN HK HJ ⊢
            generalize wz1.heap.size = pn at HN hlg ⊢
            have HN := hide HN
            have HLG := hide hlg
            clear hlg
            have hHeld := S15.of ((unhide HBX0).1.call (unhide HK)) ((unhide HBX0).2.1.call (unhide HK)) ((unhide HBX0).2.2.1.call (unhide HK)) ((unhide HP).call (unhide HK)) ((unhide HQ0).call (unhide HK)) (unhide HK)
            refine wpAnyH_ready (rs := [6]) (by kernel_rfl) (by simp) ?_
            refine AllReadyH.cons (i := 6) (o := { dst := some 58, op := Op.call { callee := Callee.value (Operand.func 15), args := #[Operand.tmp 52, Operand.tmp 53, Operand.tmp 57], argTypes := #[27, 30, 30] }, type := 30, pos := "laws.go:1758", after := #[{ on := 0, ground := Ground.data }, { on := 1, ground := Ground.data }, { on := 5, ground := Ground.data }, { on := 5, ground := Ground.chain }], guard := none }) rfl (fun K hK => ?_) AllReadyH.nil
            go_simp
            refine ((unhide KACB) _ _ _ _ _ (fut_trans (unhide HAX).1 (unhide HK)) (unhide HJ)).mono ?_
            rintro e wz3 ⟨oj, cj, ok, ck, rfl, hre, kb⟩
            have hn : pn < wz2.heap.size := (unhide HN).lt
            have HK := hide (fut_trans (unhide HK) kb)
            have HN := hide ((unhide HN).call kb)
            have HR := RowsT.of hre
            generalize wz2.heap.size = Bz at HR hn
            generalize wz3.heap.size = Tz at HR
            have HR := hide HR
            have HE : Hid (pn < Bz ∨ Tz ≤ pn) := Or.inl hn
            clear hre HJ hn
            clear kb
            have hq := S15.of ((unhide HBX0).1.call (unhide HK)) ((unhide HBX0).2.1.call (unhide HK)) ((unhide HBX0).2.2.1.call (unhide HK)) ((unhide HP).call (unhide HK)) ((unhide HQ0).call (unhide HK)) (unhide HK)
            clear hHeld
            refine hK.out _ _ hq (fun hHeld => ?_)
            clear hK K hq
            try simp only [Act.put, List.setIfInBounds_toArray, List.set_cons_zero, List.set_cons_succ]
            refine wpAnyH_ready (rs := [8]) (by kernel_rfl) (by simp) ?_
            refine AllReadyH.cons (i := 8) (o := { dst := none, op := Op.store 30 (Operand.tmp 10) (Operand.tmp 58), type := 0, pos := "laws.go:1758", after := #[{ on := 7, ground := Ground.data }, { on := 6, ground := Ground.data }, { on := 6, ground := Ground.chain }, { on := 0, ground := Ground.phase }, { on := 1, ground := Ground.phase }, { on := 2, ground := Ground.phase }, { on := 3, ground := Ground.phase }, { on := 4, ground := Ground.phase }, { on := 5, ground := Ground.phase }, { on := 6, ground := Ground.phase }, { on := 7, ground := Ground.phase }], guard := none }) rfl (fun K hK => ?_) AllReadyH.nil
            have hAB := AnB.of (l := xl) (unhide HK) (unhide HLG) (unhide HN) (unhide HR) (unhide HE) (unhide LX)
            have HAB := hide hAB
            clear hAB
            obtain ⟨c0, c1_, c2_, cf⟩ := unhide HN
            have f0 := cf 0
            have f1 := cf 1
            have f2 := cf 2
            clear cf
            go_simp
            have hq := S15.of ((unhide HBX0).1.call (unhide HAB).1) ((unhide HBX0).2.1.call (unhide HAB).1) ((unhide HBX0).2.2.1.call (unhide HAB).1) ((unhide HP).call (unhide HAB).1) ((unhide HQ0).call (unhide HAB).1) (unhide HAB).1
            clear hHeld
            refine hK.out _ _ hq (fun hHeld => ?_)
            clear hK K hq c0 c1_ c2_ f0 f1 f2 hHeld
            try simp only [Act.put, List.setIfInBounds_toArray, List.set_cons_zero, List.set_cons_succ]
            refine wpAnyH_done (by kernel_rfl) ?_ _
            go_wp2_with fail
            go_meet
            exact ⟨pn, rfl, unhide HAB⟩
        · skip
          have HN := C3.new wz0 (.bool false) (.slice none 0 0) (.slice none 0 0) 30
          have hlg : v1.heap.size ≤ wz0.heap.size := (unhide HK).size
          have ka := (Below.refl _ wz0).alloc (Nat.le_refl _) (Obj.cells #[.bool false, .slice none 0 0, .slice none 0 0] 30)
          have HK := hide (fut_trans (unhide HK) ka)
          clear ka
          have hq := S15.of ((unhide HBX0).1.call (unhide HK)) ((unhide HBX0).2.1.call (unhide HK)) ((unhide HBX0).2.2.1.call (unhide HK)) ((unhide HP).call (unhide HK)) ((unhide HQ0).call (unhide HK)) (unhide HK)
          go_simp
          clear hHeld
          refine hK.out _ _ hq (fun hHeld => ?_)
          clear hK K hq
          try simp only [Act.put, List.setIfInBounds_toArray, List.set_cons_zero, List.set_cons_succ]
          clear hHeld
          generalize wz0.alloc (Obj.cells #[.bool false, .slice none 0 0, .slice none 0 0] 30) = wz1 at HN HK ⊢
          generalize wz0.heap.size = pn at HN hlg ⊢
          have HN := hide HN
          have HLG := hide hlg
          clear hlg
          have hHeld := S15.of ((unhide HBX0).1.call (unhide HK)) ((unhide HBX0).2.1.call (unhide HK)) ((unhide HBX0).2.2.1.call (unhide HK)) ((unhide HP).call (unhide HK)) ((unhide HQ0).call (unhide HK)) (unhide HK)
          refine wpAnyH_ready (rs := [5]) (by kernel_rfl) (by simp) ?_
          refine AllReadyH.cons (i := 5) (o := { dst := some 57, op := Op.call { callee := Callee.value (Operand.func 15), args := #[Operand.tmp 54, Operand.tmp 55, Operand.tmp 56], argTypes := #[27, 30, 30] }, type := 30, pos := "laws.go:1758", after := #[{ on := 2, ground := Ground.data }, { on := 3, ground := Ground.data }, { on := 4, ground := Ground.data }], guard := none }) rfl (fun K hK => ?_) AllReadyH.nil
          go_simp
          refine ((unhide KCB) _ (fut_trans (unhide HAX).1 (unhide HK))).mono ?_
          rintro e wz2 ⟨oj, cj, ok, ck, rfl, hre, kb⟩
          have hn : pn < wz1.heap.size := (unhide HN).lt
          have HK := hide (fut_trans (unhide HK) kb)
          have HN := hide ((unhide HN).call kb)
          have HJ := hide (hre.ivs (by have := unhide LK; omega))
          clear hre hn
          clear kb
          have hq := S15.of ((unhide HBX0).1.call (unhide HK)) ((unhide HBX0).2.1.call (unhide HK)) ((unhide HBX0).2.2.1.call (unhide HK)) ((unhide HP).call (unhide HK)) ((unhide HQ0).call (unhide HK)) (unhide HK)
          clear hHeld
          refine hK.out _ _ hq (fun hHeld => ?_)
          clear hK K hq
          try simp only [Act.put, List.setIfInBounds_toArray, List.set_cons_zero, List.set_cons_succ]
          refine wpAnyH_ready (rs := [6]) (by kernel_rfl) (by simp) ?_
          refine AllReadyH.cons (i := 6) (o := { dst := some 58, op := Op.call { callee := Callee.value (Operand.func 15), args := #[Operand.tmp 52, Operand.tmp 53, Operand.tmp 57], argTypes := #[27, 30, 30] }, type := 30, pos := "laws.go:1758", after := #[{ on := 0, ground := Ground.data }, { on := 1, ground := Ground.data }, { on := 5, ground := Ground.data }, { on := 5, ground := Ground.chain }], guard := none }) rfl (fun K hK => ?_) AllReadyH.nil
          go_simp
          refine ((unhide KACB) _ _ _ _ _ (fut_trans (unhide HAX).1 (unhide HK)) (unhide HJ)).mono ?_
          rintro e wz3 ⟨oj, cj, ok, ck, rfl, hre, kb⟩
          have hn : pn < wz2.heap.size := (unhide HN).lt
          have HK := hide (fut_trans (unhide HK) kb)
          have HN := hide ((unhide HN).call kb)
          have HR := RowsT.of hre
          generalize wz2.heap.size = Bz at HR hn
          generalize wz3.heap.size = Tz at HR
          have HR := hide HR
          have HE : Hid (pn < Bz ∨ Tz ≤ pn) := Or.inl hn
          clear hre HJ hn
          clear kb
          have hq := S15.of ((unhide HBX0).1.call (unhide HK)) ((unhide HBX0).2.1.call (unhide HK)) ((unhide HBX0).2.2.1.call (unhide HK)) ((unhide HP).call (unhide HK)) ((unhide HQ0).call (unhide HK)) (unhide HK)
          clear hHeld
          refine hK.out _ _ hq (fun hHeld => ?_)
          clear hK K hq
          try simp only [Act.put, List.setIfInBounds_toArray, List.set_cons_zero, List.set_cons_succ]
          refine wpAnyH_ready (rs := [8]) (by kernel_rfl) (by simp) ?_
          refine AllReadyH.cons (i := 8) (o := { dst := none, op := Op.store 30 (Operand.tmp 10) (Operand.tmp 58), type := 0, pos := "laws.go:1758", after := #[{ on := 7, ground := Ground.data }, { on := 6, ground := Ground.data }, { on := 6, ground := Ground.chain }, { on := 0, ground := Ground.phase }, { on := 1, ground := Ground.phase }, { on := 2, ground := Ground.phase }, { on := 3, ground := Ground.phase }, { on := 4, ground := Ground.phase }, { on := 5, ground := Ground.phase }, { on := 6, ground := Ground.phase }, { on := 7, ground := Ground.phase }], guard := none }) rfl (fun K hK => ?_) AllReadyH.nil
          have hAB := AnB.of (l := xl) (unhide HK) (unhide HLG) (unhide HN) (unhide HR) (unhide HE) (unhide LX)
          have HAB := hide hAB
          clear hAB
          obtain ⟨c0, c1_, c2_, cf⟩ := unhide HN
          have f0 := cf 0
          have f1 := cf 1
          have f2 := cf 2
          clear cf
          go_simp
          have hq := S15.of ((unhide HBX0).1.call (unhide HAB).1) ((unhide HBX0).2.1.call (unhide HAB).1) ((unhide HBX0).2.2.1.call (unhide HAB).1) ((unhide HP).call (unhide HAB).1) ((unhide HQ0).call (unhide HAB).1) (unhide HAB).1
          clear hHeld
          refine hK.out _ _ hq (fun hHeld => ?_)
          clear hK K hq c0 c1_ c2_ f0 f1 f2 hHeld
          try simp only [Act.put, List.setIfInBounds_toArray, List.set_cons_zero, List.set_cons_succ]
          refine wpAnyH_done (by kernel_rfl) ?_ _
          go_wp2_with fail
          go_meet
          exact ⟨pn, rfl, unhide HAB⟩
      case rest =>
        obtain ⟨gy, rfl, hab⟩ := hcut
        have HAY := hide hab
        clear hab
        generalize wc = v2 at HAY ⊢
        obtain ⟨k1, g1, ox, cx, ox2, cx2, bx, ix1, ix2⟩ := unhide HAX
        obtain ⟨k2, g2, oy, cy, oy2, cy2, by_, iy1, iy2⟩ := unhide HAY
        have HK12 := hide (fut_trans k1 k2)
        have HXB := hide (bx.call k2)
        have HXI := hide (And.intro (ix1.call k2) (ix2.call k2))
        have HYB := hide by_
        have HYI := hide (And.intro iy1 iy2)
        have HBX0 := hide (show _ ∧ _ ∧ C3 v2 (u1.heap.size + 2) _ _ _ ∧ True from ⟨(unhide HBX1).1.call k2, (unhide HBX1).2.1.call k2, (unhide HBX1).2.2.call k2, trivial⟩)
        clear k1 k2 g1 g2 bx by_ ix1 ix2 iy1 iy2 HAX HAY HBX1 HP HQ0
        have HP := HXB
        have HQ0 := HYB
        go_upto_region 11 with fail
        have hs := S15.of ((unhide HBX0).1.call (Below.refl v2.heap.size v2)) ((unhide HBX0).2.1.call (Below.refl v2.heap.size v2)) ((unhide HBX0).2.2.1.call (Below.refl v2.heap.size v2)) ((unhide HP).call (Below.refl v2.heap.size v2)) ((unhide HQ0).call (Below.refl v2.heap.size v2)) (Below.refl v2.heap.size v2)
        have HHS := hide hs
        clear hs
        refine wp_region_held_drew (S := (S15 v2 u1.heap.size gx gy (.slice a1 vs.length c1) (.slice a2 fs.length c2) (.slice a3 rs.length c3) (.bool li) (.slice oa xs.length ca) (.slice ob ys.length cb) (.bool false) (.slice oc xs2.length cc) (.slice od ys2.length cd) (.bool xl) (.slice ox xx.length cx) (.slice ox2 xy.length cx2) (.bool xl) (.slice oy xx.length cy) (.slice oy2 xy.length cy2))) (by kernel_rfl) (S15.drew (unhide HHS)) (fun hHeld => ?_)
        refine wpAnyH_take (i := 0) (oi := { dst := some 59, op := Op.load 30 (Operand.tmp 9), type := 30, pos := "laws.go:1759", after := #[], guard := none }) (v := ?_) rfl (by kernel_rfl) (by kernel_rfl) (by kernel_rfl) (fun _ _ _ h => h) (Or.inl ⟨by rfl, ?_⟩) (by assumption) ?_
        rotate_left
        · (intro w9 hSw; (try dsimp only at hSw); go_simp; try with_reducible rfl)
        try simp only [Act.put, List.setIfInBounds_toArray, List.set_cons_zero, List.set_cons_succ]
        refine wpAnyH_take (i := 1) (oi := { dst := some 60, op := Op.load 30 (Operand.tmp 10), type := 30, pos := "laws.go:1759", after := #[], guard := none }) (v := ?_) rfl (by kernel_rfl) (by kernel_rfl) (by kernel_rfl) (fun _ _ _ h => h) (Or.inl ⟨by rfl, ?_⟩) (by assumption) ?_
        rotate_left
        · (intro w9 hSw; (try dsimp only at hSw); go_simp; try with_reducible rfl)
        try simp only [Act.put, List.setIfInBounds_toArray, List.set_cons_zero, List.set_cons_succ]
        refine wpAnyH_ready (rs := [2]) (by kernel_rfl) (by simp) ?_
        refine AllReadyH.cons (i := 2) (o := { dst := some 61, op := Op.call { callee := Callee.value (Operand.func 17), args := #[Operand.tmp 59, Operand.tmp 60], argTypes := #[30, 30] }, type := 4, pos := "laws.go:1759", after := #[{ on := 0, ground := Ground.data }, { on := 1, ground := Ground.data }], guard := none }) rfl (fun K hK => ?_) AllReadyH.nil
        go_simp
        refine (same_again (And.intro ((unhide HXI).1.call (S15.bel hHeld)) ((unhide HXI).2.call (S15.bel hHeld))) (And.intro ((unhide HYI).1.call (S15.bel hHeld)) ((unhide HYI).2.call (S15.bel hHeld)))).mono ?_
        rintro e u9 ⟨rfl, kb⟩
        have hq := S15.call hHeld kb
        clear kb hHeld
        refine hK.out _ _ hq (fun hHeld => ?_)
        clear hK K hq
        try simp only [Act.put, List.setIfInBounds_toArray, List.set_cons_zero, List.set_cons_succ]
        refine wpAnyH_take (i := 3) (oi := { dst := some 62, op := Op.move (Operand.tmp 61), type := 4, pos := "laws.go:1759", after := #[{ on := 2, ground := Ground.data }, { on := 2, ground := Ground.chain }], guard := none }) (v := ?_) rfl (by kernel_rfl) (by kernel_rfl) (by kernel_rfl) (fun _ _ _ h => h) (Or.inl ⟨by rfl, ?_⟩) (by assumption) ?_
        rotate_left
        · (intro w9 hSw; (try dsimp only at hSw); go_simp; try with_reducible rfl)
        try simp only [Act.put, List.setIfInBounds_toArray, List.set_cons_zero, List.set_cons_succ]
        refine wpAnyH_take (i := 4) (oi := { dst := some 63, op := Op.load 27 (Operand.tmp 5), type := 27, pos := "laws.go:1759", after := #[{ on := 3, ground := Ground.guard }], guard := some (3, true) }) (v := ?_) rfl (by kernel_rfl) (by kernel_rfl) (by kernel_rfl) (fun _ _ _ h => h) (Or.inl ⟨by rfl, ?_⟩) (by assumption) ?_
        rotate_left
        · (intro w9 hSw; (try dsimp only at hSw); go_simp; try with_reducible rfl)
        try simp only [Act.put, List.setIfInBounds_toArray, List.set_cons_zero, List.set_cons_succ]
        refine wpAnyH_take (i := 5) (oi := { dst := some 64, op := Op.load 30 (Operand.tmp 6), type := 30, pos := "laws.go:1759", after := #[{ on := 3, ground := Ground.guard }], guard := some (3, true) }) (v := ?_) rfl (by kernel_rfl) (by kernel_rfl) (by kernel_rfl) (fun _ _ _ h => h) (Or.inl ⟨by rfl, ?_⟩) (by assumption) ?_
        rotate_left
        · (intro w9 hSw; (try dsimp only at hSw); go_simp; try with_reducible rfl)
        try simp only [Act.put, List.setIfInBounds_toArray, List.set_cons_zero, List.set_cons_succ]
        refine wpAnyH_take (i := 6) (oi := { dst := some 65, op := Op.load 30 (Operand.tmp 6), type := 30, pos := "laws.go:1759", after := #[{ on := 3, ground := Ground.guard }], guard := some (3, true) }) (v := ?_) rfl (by kernel_rfl) (by kernel_rfl) (by kernel_rfl) (fun _ _ _ h => h) (Or.inl ⟨by rfl, ?_⟩) (by assumption) ?_
        rotate_left
        · (intro w9 hSw; (try dsimp only at hSw); go_simp; try with_reducible rfl)
        try simp only [Act.put, List.setIfInBounds_toArray, List.set_cons_zero, List.set_cons_succ]
        refine wpAnyH_take (i := 8) (oi := { dst := some 67, op := Op.load 30 (Operand.tmp 6), type := 30, pos := "laws.go:1759", after := #[{ on := 3, ground := Ground.guard }], guard := some (3, true) }) (v := ?_) rfl (by kernel_rfl) (by kernel_rfl) (by kernel_rfl) (fun _ _ _ h => h) (Or.inl ⟨by rfl, ?_⟩) (by assumption) ?_
        rotate_left
        · (intro w9 hSw; (try dsimp only at hSw); go_simp; try with_reducible rfl)
        try simp only [Act.put, List.setIfInBounds_toArray, List.set_cons_zero, List.set_cons_succ]
        refine wpAnyH_ready (rs := [7]) (by kernel_rfl) (by simp) ?_
        refine AllReadyH.cons (i := 7) (o := { dst := some 66, op := Op.call { callee := Callee.value (Operand.func 15), args := #[Operand.tmp 63, Operand.tmp 64, Operand.tmp 65], argTypes := #[27, 30, 30] }, type := 30, pos := "laws.go:1759", after := #[{ on := 4, ground := Ground.data }, { on := 5, ground := Ground.data }, { on := 6, ground := Ground.data }, { on := 3, ground := Ground.chain }, { on := 3, ground := Ground.guard }], guard := some (3, true) }) rfl (fun K hK => ?_) AllReadyH.nil
        go_simp
        refine ((unhide KAA) _ (fut_trans (unhide HK12) (S15.bel hHeld))).mono ?_
        rintro e u9 ⟨oj, cj, ok, ck, rfl, hre, kb⟩
        have HI := hide (hre.ivs (by have := unhide LA; have := unhide LJ; omega))
        clear hre
        have hq := S15.call hHeld kb
        clear kb hHeld
        refine hK.out _ _ hq (fun hHeld => ?_)
        clear hK K hq
        try simp only [Act.put, List.setIfInBounds_toArray, List.set_cons_zero, List.set_cons_succ]
        refine wpAnyH_ready (rs := [9]) (by kernel_rfl) (by simp) ?_
        refine AllReadyH.cons (i := 9) (o := { dst := some 68, op := Op.call { callee := Callee.value (Operand.func 17), args := #[Operand.tmp 66, Operand.tmp 67], argTypes := #[30, 30] }, type := 4, pos := "laws.go:1759", after := #[{ on := 7, ground := Ground.data }, { on := 8, ground := Ground.data }, { on := 7, ground := Ground.chain }, { on := 3, ground := Ground.guard }], guard := some (3, true) }) rfl (fun K hK => ?_) AllReadyH.nil
        go_simp
        refine (same_again (unhide HI) ((unhide HRA) _ (fut_trans (unhide HK12) (S15.bel hHeld)))).mono ?_
        rintro e u9 ⟨rfl, kb⟩
        clear HI
        have hq := S15.call hHeld kb
        clear kb hHeld
        refine hK.out _ _ hq (fun hHeld => ?_)
        clear hK K hq
        try simp only [Act.put, List.setIfInBounds_toArray, List.set_cons_zero, List.set_cons_succ]
        refine wpAnyH_take (i := 10) (oi := { dst := some 69, op := Op.pick (Operand.tmp 62) (Operand.tmp 68) (Operand.const (Value.bool false)), type := 4, pos := "laws.go:1759", after := #[{ on := 3, ground := Ground.data }, { on := 9, ground := Ground.data }], guard := none }) (v := ?_) rfl (by kernel_rfl) (by kernel_rfl) (by kernel_rfl) (fun _ _ _ h => h) (Or.inl ⟨by rfl, ?_⟩) (by assumption) ?_
        rotate_left
        · (intro w9 hSw; (try dsimp only at hSw); go_simp; try with_reducible rfl)
        try simp only [Act.put, List.setIfInBounds_toArray, List.set_cons_zero, List.set_cons_succ]
        refine wpAnyH_take (i := 11) (oi := { dst := some 70, op := Op.move (Operand.tmp 69), type := 4, pos := "laws.go:1759", after := #[{ on := 10, ground := Ground.data }, { on := 9, ground := Ground.chain }], guard := none }) (v := ?_) rfl (by kernel_rfl) (by kernel_rfl) (by kernel_rfl) (fun _ _ _ h => h) (Or.inl ⟨by rfl, ?_⟩) (by assumption) ?_
        rotate_left
        · (intro w9 hSw; (try dsimp only at hSw); go_simp; try with_reducible rfl)
        try simp only [Act.put, List.setIfInBounds_toArray, List.set_cons_zero, List.set_cons_succ]
        refine wpAnyH_take (i := 12) (oi := { dst := some 71, op := Op.load 27 (Operand.tmp 5), type := 27, pos := "laws.go:1759", after := #[{ on := 11, ground := Ground.guard }], guard := some (11, true) }) (v := ?_) rfl (by kernel_rfl) (by kernel_rfl) (by kernel_rfl) (fun _ _ _ h => h) (Or.inl ⟨by rfl, ?_⟩) (by assumption) ?_
        rotate_left
        · (intro w9 hSw; (try dsimp only at hSw); go_simp; try with_reducible rfl)
        try simp only [Act.put, List.setIfInBounds_toArray, List.set_cons_zero, List.set_cons_succ]
        refine wpAnyH_take (i := 13) (oi := { dst := some 72, op := Op.load 30 (Operand.tmp 6), type := 30, pos := "laws.go:1759", after := #[{ on := 11, ground := Ground.guard }], guard := some (11, true) }) (v := ?_) rfl (by kernel_rfl) (by kernel_rfl) (by kernel_rfl) (fun _ _ _ h => h) (Or.inl ⟨by rfl, ?_⟩) (by assumption) ?_
        rotate_left
        · (intro w9 hSw; (try dsimp only at hSw); go_simp; try with_reducible rfl)
        try simp only [Act.put, List.setIfInBounds_toArray, List.set_cons_zero, List.set_cons_succ]
        refine wpAnyH_take (i := 14) (oi := { dst := some 73, op := Op.load 30 (Operand.tmp 9), type := 30, pos := "laws.go:1759", after := #[{ on := 11, ground := Ground.guard }], guard := some (11, true) }) (v := ?_) rfl (by kernel_rfl) (by kernel_rfl) (by kernel_rfl) (fun _ _ _ h => h) (Or.inl ⟨by rfl, ?_⟩) (by assumption) ?_
        rotate_left
        · (intro w9 hSw; (try dsimp only at hSw); go_simp; try with_reducible rfl)
        try simp only [Act.put, List.setIfInBounds_toArray, List.set_cons_zero, List.set_cons_succ]
        refine wpAnyH_take (i := 16) (oi := { dst := some 75, op := Op.load 30 (Operand.tmp 6), type := 30, pos := "laws.go:1759", after := #[{ on := 11, ground := Ground.guard }], guard := some (11, true) }) (v := ?_) rfl (by kernel_rfl) (by kernel_rfl) (by kernel_rfl) (fun _ _ _ h => h) (Or.inl ⟨by rfl, ?_⟩) (by assumption) ?_
        rotate_left
        · (intro w9 hSw; (try dsimp only at hSw); go_simp; try with_reducible rfl)
        try simp only [Act.put, List.setIfInBounds_toArray, List.set_cons_zero, List.set_cons_succ]
        refine wpAnyH_ready (rs := [15]) (by kernel_rfl) (by simp) ?_
        refine AllReadyH.cons (i := 15) (o := { dst := some 74, op := Op.call { callee := Callee.value (Operand.func 16), args := #[Operand.tmp 71, Operand.tmp 72, Operand.tmp 73], argTypes := #[27, 30, 30] }, type := 30, pos := "laws.go:1759", after := #[{ on := 12, ground := Ground.data }, { on := 13, ground := Ground.data }, { on := 14, ground := Ground.data }, { on := 11, ground := Ground.chain }, { on := 11, ground := Ground.guard }], guard := some (11, true) }) rfl (fun K hK => ?_) AllReadyH.nil
        go_simp
        refine ((unhide KM) _ _ _ _ _ (fut_trans (unhide HK12) (S15.bel hHeld)) (And.intro ((unhide HXI).1.call (S15.bel hHeld)) ((unhide HXI).2.call (S15.bel hHeld)))).mono ?_
        rintro e u9 ⟨oj, cj, ok, ck, rfl, hre, kb⟩
        have HI := hide (hre.ivs (by have := unhide LA; have := unhide LJ; omega))
        clear hre
        have hq := S15.call hHeld kb
        clear kb hHeld
        refine hK.out _ _ hq (fun hHeld => ?_)
        clear hK K hq
        try simp only [Act.put, List.setIfInBounds_toArray, List.set_cons_zero, List.set_cons_succ]
        refine wpAnyH_ready (rs := [17]) (by kernel_rfl) (by simp) ?_
        refine AllReadyH.cons (i := 17) (o := { dst := some 76, op := Op.call { callee := Callee.value (Operand.func 17), args := #[Operand.tmp 74, Operand.tmp 75], argTypes := #[30, 30] }, type := 4, pos := "laws.go:1759", after := #[{ on := 15, ground := Ground.data }, { on := 16, ground := Ground.data }, { on := 15, ground := Ground.chain }, { on := 11, ground := Ground.guard }], guard := some (11, true) }) rfl (fun K hK => ?_) AllReadyH.nil
        go_simp
        refine (same_again (unhide HI) ((unhide HRA) _ (fut_trans (unhide HK12) (S15.bel hHeld)))).mono ?_
        rintro e u9 ⟨rfl, kb⟩
        clear HI
        have hq := S15.call hHeld kb
        clear kb hHeld
        refine hK.out _ _ hq (fun hHeld => ?_)
        clear hK K hq
        try simp only [Act.put, List.setIfInBounds_toArray, List.set_cons_zero, List.set_cons_succ]
        refine wpAnyH_take (i := 18) (oi := { dst := some 77, op := Op.pick (Operand.tmp 70) (Operand.tmp 76) (Operand.const (Value.bool false)), type := 4, pos := "laws.go:1759", after := #[{ on := 11, ground := Ground.data }, { on := 17, ground := Ground.data }], guard := none }) (v := ?_) rfl (by kernel_rfl) (by kernel_rfl) (by kernel_rfl) (fun _ _ _ h => h) (Or.inl ⟨by rfl, ?_⟩) (by assumption) ?_
        rotate_left
        · (intro w9 hSw; (try dsimp only at hSw); go_simp; try with_reducible rfl)
        try simp only [Act.put, List.setIfInBounds_toArray, List.set_cons_zero, List.set_cons_succ]
        refine wpAnyH_take (i := 19) (oi := { dst := some 78, op := Op.move (Operand.tmp 77), type := 4, pos := "laws.go:1759", after := #[{ on := 18, ground := Ground.data }, { on := 17, ground := Ground.chain }], guard := none }) (v := ?_) rfl (by kernel_rfl) (by kernel_rfl) (by kernel_rfl) (fun _ _ _ h => h) (Or.inl ⟨by rfl, ?_⟩) (by assumption) ?_
        rotate_left
        · (intro w9 hSw; (try dsimp only at hSw); go_simp; try with_reducible rfl)
        try simp only [Act.put, List.setIfInBounds_toArray, List.set_cons_zero, List.set_cons_succ]
        refine wpAnyH_take (i := 20) (oi := { dst := some 79, op := Op.load 27 (Operand.tmp 5), type := 27, pos := "laws.go:1759", after := #[{ on := 19, ground := Ground.guard }], guard := some (19, true) }) (v := ?_) rfl (by kernel_rfl) (by kernel_rfl) (by kernel_rfl) (fun _ _ _ h => h) (Or.inl ⟨by rfl, ?_⟩) (by assumption) ?_
        rotate_left
        · (intro w9 hSw; (try dsimp only at hSw); go_simp; try with_reducible rfl)
        try simp only [Act.put, List.setIfInBounds_toArray, List.set_cons_zero, List.set_cons_succ]
        refine wpAnyH_take (i := 21) (oi := { dst := some 80, op := Op.load 30 (Operand.tmp 6), type := 30, pos := "laws.go:1759", after := #[{ on := 19, ground := Ground.guard }], guard := some (19, true) }) (v := ?_) rfl (by kernel_rfl) (by kernel_rfl) (by kernel_rfl) (fun _ _ _ h => h) (Or.inl ⟨by rfl, ?_⟩) (by assumption) ?_
        rotate_left
        · (intro w9 hSw; (try dsimp only at hSw); go_simp; try with_reducible rfl)
        try simp only [Act.put, List.setIfInBounds_toArray, List.set_cons_zero, List.set_cons_succ]
        refine wpAnyH_take (i := 22) (oi := { dst := some 81, op := Op.load 30 (Operand.tmp 7), type := 30, pos := "laws.go:1759", after := #[{ on := 19, ground := Ground.guard }], guard := some (19, true) }) (v := ?_) rfl (by kernel_rfl) (by kernel_rfl) (by kernel_rfl) (fun _ _ _ h => h) (Or.inl ⟨by rfl, ?_⟩) (by assumption) ?_
        rotate_left
        · (intro w9 hSw; (try dsimp only at hSw); go_simp; try with_reducible rfl)
        try simp only [Act.put, List.setIfInBounds_toArray, List.set_cons_zero, List.set_cons_succ]
        refine wpAnyH_take (i := 24) (oi := { dst := some 83, op := Op.load 27 (Operand.tmp 5), type := 27, pos := "laws.go:1759", after := #[{ on := 19, ground := Ground.guard }], guard := some (19, true) }) (v := ?_) rfl (by kernel_rfl) (by kernel_rfl) (by kernel_rfl) (fun _ _ _ h => h) (Or.inl ⟨by rfl, ?_⟩) (by assumption) ?_
        rotate_left
        · (intro w9 hSw; (try dsimp only at hSw); go_simp; try with_reducible rfl)
        try simp only [Act.put, List.setIfInBounds_toArray, List.set_cons_zero, List.set_cons_succ]
        refine wpAnyH_take (i := 25) (oi := { dst := some 84, op := Op.load 30 (Operand.tmp 6), type := 30, pos := "laws.go:1759", after := #[{ on := 19, ground := Ground.guard }], guard := some (19, true) }) (v := ?_) rfl (by kernel_rfl) (by kernel_rfl) (by kernel_rfl) (fun _ _ _ h => h) (Or.inl ⟨by rfl, ?_⟩) (by assumption) ?_
        rotate_left
        · (intro w9 hSw; (try dsimp only at hSw); go_simp; try with_reducible rfl)
        try simp only [Act.put, List.setIfInBounds_toArray, List.set_cons_zero, List.set_cons_succ]
        refine wpAnyH_take (i := 26) (oi := { dst := some 85, op := Op.load 30 (Operand.tmp 7), type := 30, pos := "laws.go:1759", after := #[{ on := 19, ground := Ground.guard }], guard := some (19, true) }) (v := ?_) rfl (by kernel_rfl) (by kernel_rfl) (by kernel_rfl) (fun _ _ _ h => h) (Or.inl ⟨by rfl, ?_⟩) (by assumption) ?_
        rotate_left
        · (intro w9 hSw; (try dsimp only at hSw); go_simp; try with_reducible rfl)
        try simp only [Act.put, List.setIfInBounds_toArray, List.set_cons_zero, List.set_cons_succ]
        refine wpAnyH_ready (rs := [23]) (by kernel_rfl) (by simp) ?_
        refine AllReadyH.cons (i := 23) (o := { dst := some 82, op := Op.call { callee := Callee.value (Operand.func 15), args := #[Operand.tmp 79, Operand.tmp 80, Operand.tmp 81], argTypes := #[27, 30, 30] }, type := 30, pos := "laws.go:1759", after := #[{ on := 20, ground := Ground.data }, { on := 21, ground := Ground.data }, { on := 22, ground := Ground.data }, { on := 19, ground := Ground.chain }, { on := 19, ground := Ground.guard }], guard := some (19, true) }) rfl (fun K hK => ?_) AllReadyH.nil
        go_simp
        refine ((unhide KAB) _ (fut_trans (unhide HK12) (S15.bel hHeld))).mono ?_
        rintro e u9 ⟨oj, cj, ok, ck, rfl, hre, kb⟩
        have HI := hide (hre.ivs (by have := unhide LA; have := unhide LJ; omega))
        clear hre
        have hq := S15.call hHeld kb
        clear kb hHeld
        refine hK.out _ _ hq (fun hHeld => ?_)
        clear hK K hq
        try simp only [Act.put, List.setIfInBounds_toArray, List.set_cons_zero, List.set_cons_succ]
        refine wpAnyH_ready (rs := [27]) (by kernel_rfl) (by simp) ?_
        refine AllReadyH.cons (i := 27) (o := { dst := some 86, op := Op.call { callee := Callee.value (Operand.func 18), args := #[Operand.tmp 83, Operand.tmp 84, Operand.tmp 85], argTypes := #[27, 30, 30] }, type := 30, pos := "laws.go:1759", after := #[{ on := 24, ground := Ground.data }, { on := 25, ground := Ground.data }, { on := 26, ground := Ground.data }, { on := 23, ground := Ground.chain }, { on := 19, ground := Ground.guard }], guard := some (19, true) }) rfl (fun K hK => ?_) AllReadyH.nil
        go_simp
        refine ((unhide KS) _ (fut_trans (unhide HK12) (S15.bel hHeld))).mono ?_
        rintro e u9 ⟨oj2, cj2, ok2, ck2, rfl, hre, kb⟩
        have HI := hide (And.intro ((unhide HI).1.call kb) ((unhide HI).2.call kb))
        have HI2 := hide (hre.ivs (by have := unhide LA; have := unhide LJ; omega))
        clear hre
        have hq := S15.call hHeld kb
        clear kb hHeld
        refine hK.out _ _ hq (fun hHeld => ?_)
        clear hK K hq
        try simp only [Act.put, List.setIfInBounds_toArray, List.set_cons_zero, List.set_cons_succ]
        refine wpAnyH_ready (rs := [28]) (by kernel_rfl) (by simp) ?_
        refine AllReadyH.cons (i := 28) (o := { dst := some 87, op := Op.call { callee := Callee.value (Operand.func 17), args := #[Operand.tmp 82, Operand.tmp 86], argTypes := #[30, 30] }, type := 4, pos := "laws.go:1759", after := #[{ on := 23, ground := Ground.data }, { on := 27, ground := Ground.data }, { on := 27, ground := Ground.chain }, { on := 19, ground := Ground.guard }], guard := some (19, true) }) rfl (fun K hK => ?_) AllReadyH.nil
        go_simp
        refine (same_again (unhide HI) (unhide HI2)).mono ?_
        rintro e u9 ⟨rfl, kb⟩
        have hq := S15.call hHeld kb
        clear kb hHeld
        refine hK.out _ _ hq (fun hHeld => ?_)
        clear hK K hq
        try simp only [Act.put, List.setIfInBounds_toArray, List.set_cons_zero, List.set_cons_succ]
        refine wpAnyH_take (i := 29) (oi := { dst := some 88, op := Op.pick (Operand.tmp 78) (Operand.tmp 87) (Operand.const (Value.bool false)), type := 4, pos := "laws.go:1759", after := #[{ on := 19, ground := Ground.data }, { on := 28, ground := Ground.data }], guard := none }) (v := ?_) rfl (by kernel_rfl) (by kernel_rfl) (by kernel_rfl) (fun _ _ _ h => h) (Or.inl ⟨by rfl, ?_⟩) (by assumption) ?_
        rotate_left
        · (intro w9 hSw; (try dsimp only at hSw); go_simp; try with_reducible rfl)
        try simp only [Act.put, List.setIfInBounds_toArray, List.set_cons_zero, List.set_cons_succ]
        refine wpAnyH_take (i := 30) (oi := { dst := some 4, op := Op.assign (Operand.tmp 88), type := 4, pos := "laws.go:1759", after := #[{ on := 29, ground := Ground.data }, { on := 28, ground := Ground.chain }, { on := 0, ground := Ground.phase }, { on := 1, ground := Ground.phase }, { on := 2, ground := Ground.phase }, { on := 3, ground := Ground.phase }, { on := 4, ground := Ground.phase }, { on := 5, ground := Ground.phase }, { on := 6, ground := Ground.phase }, { on := 7, ground := Ground.phase }, { on := 8, ground := Ground.phase }, { on := 9, ground := Ground.phase }, { on := 10, ground := Ground.phase }, { on := 11, ground := Ground.phase }, { on := 12, ground := Ground.phase }, { on := 13, ground := Ground.phase }, { on := 14, ground := Ground.phase }, { on := 15, ground := Ground.phase }, { on := 16, ground := Ground.phase }, { on := 17, ground := Ground.phase }, { on := 18, ground := Ground.phase }, { on := 19, ground := Ground.phase }, { on := 20, ground := Ground.phase }, { on := 21, ground := Ground.phase }, { on := 22, ground := Ground.phase }, { on := 23, ground := Ground.phase }, { on := 24, ground := Ground.phase }, { on := 25, ground := Ground.phase }, { on := 26, ground := Ground.phase }, { on := 27, ground := Ground.phase }, { on := 28, ground := Ground.phase }, { on := 29, ground := Ground.phase }], guard := none }) (v := ?_) rfl (by kernel_rfl) (by kernel_rfl) (by kernel_rfl) (fun _ _ _ h => h) (Or.inl ⟨by rfl, ?_⟩) (by assumption) ?_
        rotate_left
        · (intro w9 hSw; (try dsimp only at hSw); go_simp; try with_reducible rfl)
        try simp only [Act.put, List.setIfInBounds_toArray, List.set_cons_zero, List.set_cons_succ]
        refine wpAnyH_done (by kernel_rfl) ?_ _
        have HB := hide ((unhide HB).trans ((fut_trans (unhide HK12) (S15.bel hHeld)).mono (unhide HB).size))
        clear hHeld
        go_wp2
        go_ret
        exact ⟨rfl, unhide HB⟩
  have q7 := ((unhide HBX).call (unhide HK4)).2.2.1.2.1
  have q8 := ((unhide HBX).call (unhide HK4)).2.2.1.2.2.1
  go_wp2_with fail
  refine (grown_c true oc od cc cd xs2 ys2 m0 len1 cap1 _ ((unhide HRW).2.2.2.2.2.2.1.call (unhide HK4)) ((unhide HRW).2.2.2.2.2.2.2.call (unhide HK4)) ((unhide CM).below ((unhide HB).trans ((unhide HK4).mono (unhide HB).size))) (by have := env_few (unhide HBB); omega) (unhide HIN) (env_live (unhide HBB)).2.2).mono ?_
  rintro e u6 ⟨oe, ce, og, cg, xs3, ys3, rfl, hre, hlen, hiv, kb⟩
  have HC := hide (grown_env (unhide HBB) hlen hiv)
  have hrt := RowsT.of hre
  have hc5 := (unhide HCB).lt
  have LC := hide (env_few (unhide HC))
  have HCB := hide ((unhide HCB).call kb)
  have HK4 := hide (fut_trans (unhide HK4) kb)
  clear kb hre hlen hiv q6 q7 q8
  have HRT := hide hrt
  clear hrt
  have hci : Ivs (((u6.setCell ⟨u4.heap.size, 0, none⟩ (.bool true)).setCell ⟨u4.heap.size, 1, none⟩ (.slice oe xs3.length ce)).setCell ⟨u4.heap.size, 2, none⟩ (.slice og ys3.length cg)) oe xs3 ∧ Ivs (((u6.setCell ⟨u4.heap.size, 0, none⟩ (.bool true)).setCell ⟨u4.heap.size, 1, none⟩ (.slice oe xs3.length ce)).setCell ⟨u4.heap.size, 2, none⟩ (.slice og ys3.length cg)) og ys3 := ((((unhide HRT).set (.inl hc5) (.bool true) (o := 0)).set (.inl hc5) (.slice oe xs3.length ce) (o := 1)).set (.inl hc5) (.slice og ys3.length cg) (o := 2)).1.ivs (by have := unhide LC; omega)
  have HCI := hide hci
  clear hci HRT
  have HK4 := hide ((((unhide HK4).setCell (Nat.le_refl _) (.bool true) (p := ⟨u4.heap.size, 0, none⟩)).setCell (Nat.le_refl _) (.slice oe xs3.length ce) (p := ⟨u4.heap.size, 1, none⟩)).setCell (Nat.le_refl _) (.slice og ys3.length cg) (p := ⟨u4.heap.size, 2, none⟩))
  obtain ⟨r0, r1, r2, rf⟩ := unhide HCB
  have rf0 := rf 0
  have rf1 := rf 1
  have rf2 := rf 2
  clear rf
  have HCB2 := hide ((((unhide HCB).set0 (.bool true)).set1 (.slice oe xs3.length ce)).set2 (.slice og ys3.length cg))
  go_upto_region 9 with fail
  clear r0 r1 r2 rf0 rf1 rf2 HCB
  have HCB := HCB2
  clear HCB2
  generalize ((u6.setCell ⟨u4.heap.size, 0, none⟩ (.bool true)).setCell ⟨u4.heap.size, 1, none⟩ (.slice oe xs3.length ce)).setCell ⟨u4.heap.size, 2, none⟩ (.slice og ys3.length cg) = u7 at HCB HCI HK4 ⊢
  have HBX := hide ((unhide HBX).call (unhide HK4))
  have HRW := hide ((unhide HRW).call (unhide HK4))
  have HB := hide ((unhide HB).trans ((unhide HK4).mono (unhide HB).size))
  clear HK4 hc5 LC
  obtain ⟨jl, xl, kl, jx, jy, xx, xy, kx, ky, hf⟩ := jnf_of (unhide HA) (unhide HBB) (unhide HC)
  have HF := hide hf
  have LJ := hide hf.2.2.2.2.2.2.1
  have LX := hide hf.2.2.2.2.2.2.2.1
  have LK := hide hf.2.2.2.2.2.2.2.2.1
  have LA := hide hf.2.2.2.2.2.2.2.2.2
  clear hf
  generalize u7 = ub at HBX HRW HB HCB HCI ⊢
  have HBX0 := HBX
  have HP := HCB
  have HQ0 := HCB
  clear HBX HCB
  have KAB : Hid (∀ w, Below ub.heap.size ub w → Calls Tryd.prog 15 #[.agg #[.slice a1 vs.length c1, .slice a2 fs.length c2, .slice a3 rs.length c3], .agg #[.bool li, .slice oa xs.length ca, .slice ob ys.length cb], .agg #[.bool true, .slice oc xs2.length cc, .slice od ys2.length cd]] w (Ans3 jl jx jy w)) := fun w k => by
    have q := iEnvJoin_c a1 a2 a3 c1 c2 c3 vs fs rs li oa ob ca cb xs ys true oc od cc cd xs2 ys2 w ((unhide HRW).1.call k) ((unhide HRW).2.1.call k) ((unhide HRW).2.2.1.call k) ((unhide HRW).2.2.2.1.call k) (unhide HZ) ((unhide HRW).2.2.2.2.1.call k) ((unhide HRW).2.2.2.2.2.1.call k) ((unhide HRW).2.2.2.2.2.2.1.call k) ((unhide HRW).2.2.2.2.2.2.2.call k)
    rw [(unhide HF).1.1, (unhide HF).1.2] at q
    exact q
  have KS : Hid (∀ w, Below ub.heap.size ub w → Calls Tryd.prog 18 #[.agg #[.slice a1 vs.length c1, .slice a2 fs.length c2, .slice a3 rs.length c3], .agg #[.bool li, .slice oa xs.length ca, .slice ob ys.length cb], .agg #[.bool true, .slice oc xs2.length cc, .slice od ys2.length cd]] w (Ans3 jl jx jy w)) := fun w k => by
    have q := sEnvJoin_c a1 a2 a3 c1 c2 c3 vs fs rs li oa ob ca cb xs ys true oc od cc cd xs2 ys2 w ((unhide HRW).2.1.call k) ((unhide HRW).2.2.1.call k) ((unhide HRW).2.2.2.1.call k) (unhide HZ) ((unhide HRW).2.2.2.2.1.call k) ((unhide HRW).2.2.2.2.2.1.call k) ((unhide HRW).2.2.2.2.2.2.1.call k) ((unhide HRW).2.2.2.2.2.2.2.call k)
    rw [(unhide HF).1.1, (unhide HF).1.2] at q
    exact q
  have KABC : Hid (∀ w oj cj ok ck, Below ub.heap.size ub w → Ivs w oj jx ∧ Ivs w ok jy → Calls Tryd.prog 15 #[.agg #[.slice a1 vs.length c1, .slice a2 fs.length c2, .slice a3 rs.length c3], .agg #[.bool jl, .slice oj jx.length cj, .slice ok jy.length ck], .agg #[.bool true, .slice oe xs3.length ce, .slice og ys3.length cg]] w (Ans3 xl xx xy w)) := fun w oj cj ok ck k hr => by
    have q := iEnvJoin_c a1 a2 a3 c1 c2 c3 vs fs rs jl oj ok cj ck jx jy true oe og ce cg xs3 ys3 w ((unhide HRW).1.call k) ((unhide HRW).2.1.call k) ((unhide HRW).2.2.1.call k) ((unhide HRW).2.2.2.1.call k) (unhide HZ) hr.1 hr.2 ((unhide HCI).1.call k) ((unhide HCI).2.call k)
    rw [(unhide HF).2.1.1, (unhide HF).2.1.2] at q
    exact q
  have KCB : Hid (∀ w, Below ub.heap.size ub w → Calls Tryd.prog 15 #[.agg #[.slice a1 vs.length c1, .slice a2 fs.length c2, .slice a3 rs.length c3], .agg #[.bool true, .slice oe xs3.length ce, .slice og ys3.length cg], .agg #[.bool true, .slice oc xs2.length cc, .slice od ys2.length cd]] w (Ans3 kl kx ky w)) := fun w k => by
    have q := iEnvJoin_c a1 a2 a3 c1 c2 c3 vs fs rs true oe og ce cg xs3 ys3 true oc od cc cd xs2 ys2 w ((unhide HRW).1.call k) ((unhide HRW).2.1.call k) ((unhide HRW).2.2.1.call k) ((unhide HRW).2.2.2.1.call k) (unhide HZ) ((unhide HCI).1.call k) ((unhide HCI).2.call k) ((unhide HRW).2.2.2.2.2.2.1.call k) ((unhide HRW).2.2.2.2.2.2.2.call k)
    rw [(unhide HF).2.2.1.1, (unhide HF).2.2.1.2] at q
    exact q
  have KACB : Hid (∀ w oj cj ok ck, Below ub.heap.size ub w → Ivs w oj kx ∧ Ivs w ok ky → Calls Tryd.prog 15 #[.agg #[.slice a1 vs.length c1, .slice a2 fs.length c2, .slice a3 rs.length c3], .agg #[.bool li, .slice oa xs.length ca, .slice ob ys.length cb], .agg #[.bool kl, .slice oj kx.length cj, .slice ok ky.length ck]] w (Ans3 xl xx xy w)) := fun w oj cj ok ck k hr => by
    have q := iEnvJoin_c a1 a2 a3 c1 c2 c3 vs fs rs li oa ob ca cb xs ys kl oj ok cj ck kx ky w ((unhide HRW).1.call k) ((unhide HRW).2.1.call k) ((unhide HRW).2.2.1.call k) ((unhide HRW).2.2.2.1.call k) (unhide HZ) ((unhide HRW).2.2.2.2.1.call k) ((unhide HRW).2.2.2.2.2.1.call k) hr.1 hr.2
    rw [(unhide HF).2.2.2.1.1, (unhide HF).2.2.2.1.2] at q
    exact q
  have KAA : Hid (∀ w, Below ub.heap.size ub w → Calls Tryd.prog 15 #[.agg #[.slice a1 vs.length c1, .slice a2 fs.length c2, .slice a3 rs.length c3], .agg #[.bool li, .slice oa xs.length ca, .slice ob ys.length cb], .agg #[.bool li, .slice oa xs.length ca, .slice ob ys.length cb]] w (Ans3 li xs ys w)) := fun w k => by
    have q := iEnvJoin_c a1 a2 a3 c1 c2 c3 vs fs rs li oa ob ca cb xs ys li oa ob ca cb xs ys w ((unhide HRW).1.call k) ((unhide HRW).2.1.call k) ((unhide HRW).2.2.1.call k) ((unhide HRW).2.2.2.1.call k) (unhide HZ) ((unhide HRW).2.2.2.2.1.call k) ((unhide HRW).2.2.2.2.2.1.call k) ((unhide HRW).2.2.2.2.1.call k) ((unhide HRW).2.2.2.2.2.1.call k)
    rw [(unhide HF).2.2.2.2.1.1, (unhide HF).2.2.2.2.1.2] at q
    exact q
  have KM : Hid (∀ w oj cj ok ck, Below ub.heap.size ub w → Ivs w oj xx ∧ Ivs w ok xy → Calls Tryd.prog 16 #[.agg #[.slice a1 vs.length c1, .slice a2 fs.length c2, .slice a3 rs.length c3], .agg #[.bool li, .slice oa xs.length ca, .slice ob ys.length cb], .agg #[.bool xl, .slice oj xx.length cj, .slice ok xy.length ck]] w (Ans3 li xs ys w)) := fun w oj cj ok ck k hr => by
    have q := iEnvMeet_c a1 a2 a3 c1 c2 c3 vs fs rs li oa ob ca cb xs ys xl oj ok cj ck xx xy w ((unhide HRW).1.call k) ((unhide HRW).2.1.call k) ((unhide HRW).2.2.1.call k) ((unhide HRW).2.2.2.1.call k) (unhide HZ) ((unhide HRW).2.2.2.2.1.call k) ((unhide HRW).2.2.2.2.2.1.call k) hr.1 hr.2
    rw [(unhide HF).2.2.2.2.2.1.1, (unhide HF).2.2.2.2.2.1.2] at q
    exact q
  have HRA : Hid (∀ w, Below ub.heap.size ub w → Ivs w oa xs ∧ Ivs w ob ys) := fun w k => ⟨((unhide HRW).2.2.2.2.1.call k), ((unhide HRW).2.2.2.2.2.1.call k)⟩
  clear HF HCI HRW HZ HA HBB HC
  go_cut [9] (fun p wc => ∃ g, p = .pointer (some ⟨g, 0, none⟩) ∧ AnB ub g xl xx xy wc)
  case first =>
    have HK := hide (Below.refl ub.heap.size ub).drew
    obtain ⟨wz0, hw0⟩ : ∃ x, x = ub.drew := ⟨_, rfl⟩
    rw [← hw0] at HK
    refine wp_region_held_drew (S := (S15 ub u1.heap.size u4.heap.size u4.heap.size (.slice a1 vs.length c1) (.slice a2 fs.length c2) (.slice a3 rs.length c3) (.bool li) (.slice oa xs.length ca) (.slice ob ys.length cb) (.bool true) (.slice oc xs2.length cc) (.slice od ys2.length cd) (.bool true) (.slice oe xs3.length ce) (.slice og ys3.length cg) (.bool true) (.slice oe xs3.length ce) (.slice og ys3.length cg))) (by kernel_rfl) (by rw [← hw0]; exact S15.of ((unhide HBX0).1.call (unhide HK)) ((unhide HBX0).2.1.call (unhide HK)) ((unhide HBX0).2.2.1.call (unhide HK)) ((unhide HP).call (unhide HK)) ((unhide HQ0).call (unhide HK)) (unhide HK)) (fun hHeld => ?_)
    rw [← hw0] at hHeld ⊢
    clear hw0
    refine wpAnyH_take (i := 0) (oi := { dst := some 45, op := Op.load 27 (Operand.tmp 5), type := 27, pos := "laws.go:1757", after := #[], guard := none }) (v := ?_) rfl (by kernel_rfl) (by kernel_rfl) (by kernel_rfl) (fun _ _ _ h => h) (Or.inl ⟨by rfl, ?_⟩) (by assumption) ?_
    rotate_left
    · (intro w9 hSw; (try dsimp only at hSw); go_simp; try with_reducible rfl)
    try simp only [Act.put, List.setIfInBounds_toArray, List.set_cons_zero, List.set_cons_succ]
    refine wpAnyH_take (i := 1) (oi := { dst := some 46, op := Op.load 27 (Operand.tmp 5), type := 27, pos := "laws.go:1757", after := #[], guard := none }) (v := ?_) rfl (by kernel_rfl) (by kernel_rfl) (by kernel_rfl) (fun _ _ _ h => h) (Or.inl ⟨by rfl, ?_⟩) (by assumption) ?_
    rotate_left
    · (intro w9 hSw; (try dsimp only at hSw); go_simp; try with_reducible rfl)
    try simp only [Act.put, List.setIfInBounds_toArray, List.set_cons_zero, List.set_cons_succ]
    refine wpAnyH_take (i := 2) (oi := { dst := some 47, op := Op.load 30 (Operand.tmp 6), type := 30, pos := "laws.go:1757", after := #[], guard := none }) (v := ?_) rfl (by kernel_rfl) (by kernel_rfl) (by kernel_rfl) (fun _ _ _ h => h) (Or.inl ⟨by rfl, ?_⟩) (by assumption) ?_
    rotate_left
    · (intro w9 hSw; (try dsimp only at hSw); go_simp; try with_reducible rfl)
    try simp only [Act.put, List.setIfInBounds_toArray, List.set_cons_zero, List.set_cons_succ]
    refine wpAnyH_take (i := 3) (oi := { dst := some 48, op := Op.load 30 (Operand.tmp 7), type := 30, pos := "laws.go:1757", after := #[], guard := none }) (v := ?_) rfl (by kernel_rfl) (by kernel_rfl) (by kernel_rfl) (fun _ _ _ h => h) (Or.inl ⟨by rfl, ?_⟩) (by assumption) ?_
    rotate_left
    · (intro w9 hSw; (try dsimp only at hSw); go_simp; try with_reducible rfl)
    try simp only [Act.put, List.setIfInBounds_toArray, List.set_cons_zero, List.set_cons_succ]
    refine wpAnyH_take (i := 5) (oi := { dst := some 50, op := Op.load 30 (Operand.tmp 8), type := 30, pos := "laws.go:1757", after := #[], guard := none }) (v := ?_) rfl (by kernel_rfl) (by kernel_rfl) (by kernel_rfl) (fun _ _ _ h => h) (Or.inl ⟨by rfl, ?_⟩) (by assumption) ?_
    rotate_left
    · (intro w9 hSw; (try dsimp only at hSw); go_simp; try with_reducible rfl)
    try simp only [Act.put, List.setIfInBounds_toArray, List.set_cons_zero, List.set_cons_succ]
    refine wpAnyH_ready (rs := [4, 7]) (by kernel_rfl) (by simp) ?_
    refine AllReadyH.cons (i := 4) (o := { dst := some 49, op := Op.call { callee := Callee.value (Operand.func 15), args := #[Operand.tmp 46, Operand.tmp 47, Operand.tmp 48], argTypes := #[27, 30, 30] }, type := 30, pos := "laws.go:1757", after := #[{ on := 1, ground := Ground.data }, { on := 2, ground := Ground.data }, { on := 3, ground := Ground.data }], guard := none }) rfl (fun K hK => ?_) (AllReadyH.cons (i := 7) (o := { dst := some 9, op := Op.alloc 30, type := 0, pos := "laws.go:1757", after := #[], guard := none }) rfl (fun K hK => ?_) AllReadyH.nil)
    · skip
      go_simp
      refine ((unhide KAB) _ (unhide HK)).mono ?_
      rintro e wz1 ⟨oj, cj, ok, ck, rfl, hre, kb⟩
      have HK := hide (fut_trans (unhide HK) kb)
      have HJ := hide (hre.ivs (by have := unhide LJ; omega))
      clear hre
      clear kb
      have hq := S15.of ((unhide HBX0).1.call (unhide HK)) ((unhide HBX0).2.1.call (unhide HK)) ((unhide HBX0).2.2.1.call (unhide HK)) ((unhide HP).call (unhide HK)) ((unhide HQ0).call (unhide HK)) (unhide HK)
      clear hHeld
      refine hK.out _ _ hq (fun hHeld => ?_)
      clear hK K hq
      try simp only [Act.put, List.setIfInBounds_toArray, List.set_cons_zero, List.set_cons_succ]
      refine wpAnyH_ready (rs := [6, 7]) (by kernel_rfl) (by simp) ?_
      refine AllReadyH.cons (i := 6) (o := { dst := some 51, op := Op.call { callee := Callee.value (Operand.func 15), args := #[Operand.tmp 45, Operand.tmp 49, Operand.tmp 50], argTypes := #[27, 30, 30] }, type := 30, pos := "laws.go:1757", after := #[{ on := 0, ground := Ground.data }, { on := 4, ground := Ground.data }, { on := 5, ground := Ground.data }, { on := 4, ground := Ground.chain }], guard := none }) rfl (fun K hK => ?_) (AllReadyH.cons (i := 7) (o := { dst := some 9, op := Op.alloc 30, type := 0, pos := "laws.go:1757", after := #[], guard := none }) rfl (fun K hK => ?_) AllReadyH.nil)
      · skip
        go_simp
        refine ((unhide KABC) _ _ _ _ _ (unhide HK) (unhide HJ)).mono ?_
        rintro e wz2 ⟨oj, cj, ok, ck, rfl, hre, kb⟩
        have HK := hide (fut_trans (unhide HK) kb)
        have HR := RowsT.of hre
        generalize wz1.heap.size = Bz at HR
        generalize wz2.heap.size = Tz at HR
        have HR := hide HR
        clear hre HJ
        clear kb
        have hq := S15.of ((unhide HBX0).1.call (unhide HK)) ((unhide HBX0).2.1.call (unhide HK)) ((unhide HBX0).2.2.1.call (unhide HK)) ((unhide HP).call (unhide HK)) ((unhide HQ0).call (unhide HK)) (unhide HK)
        clear hHeld
        refine hK.out _ _ hq (fun hHeld => ?_)
        clear hK K hq
        try simp only [Act.put, List.setIfInBounds_toArray, List.set_cons_zero, List.set_cons_succ]
        refine wpAnyH_ready (rs := [7]) (by kernel_rfl) (by simp) ?_
        refine AllReadyH.cons (i := 7) (o := { dst := some 9, op := Op.alloc 30, type := 0, pos := "laws.go:1757", after := #[], guard := none }) rfl (fun K hK => ?_) AllReadyH.nil
        have HN := C3.new wz2 (.bool false) (.slice none 0 0) (.slice none 0 0) 30
        have hlg : ub.heap.size ≤ wz2.heap.size := (unhide HK).size
        have hn : Tz ≤ wz2.heap.size := (unhide HR).2.2.2
        have ka := (Below.refl _ wz2).alloc (Nat.le_refl _) (Obj.cells #[.bool false, .slice none 0 0, .slice none 0 0] 30)
        have HK := hide (fut_trans (unhide HK) ka)
        have HR := hide ((unhide HR).call ka)
        clear ka
        have hq := S15.of ((unhide HBX0).1.call (unhide HK)) ((unhide HBX0).2.1.call (unhide HK)) ((unhide HBX0).2.2.1.call (unhide HK)) ((unhide HP).call (unhide HK)) ((unhide HQ0).call (unhide HK)) (unhide HK)
        go_simp
        clear hHeld
        refine hK.out _ _ hq (fun hHeld => ?_)
        clear hK K hq
        try simp only [Act.put, List.setIfInBounds_toArray, List.set_cons_zero, List.set_cons_succ]
        clear hHeld
        generalize wz2.alloc (Obj.cells #[.bool false, .slice none 0 0, .slice none 0 0] 30) = wz3 at HN HK HR ⊢
        generalize wz2.heap.size = pn at HN hlg hn ⊢
        have HN := hide HN
        have HLG := hide hlg
        have HE : Hid (pn < Bz ∨ Tz ≤ pn) := Or.inr hn
        clear hlg hn
        have hHeld := S15.of ((unhide HBX0).1.call (unhide HK)) ((unhide HBX0).2.1.call (unhide HK)) ((unhide HBX0).2.2.1.call (unhide HK)) ((unhide HP).call (unhide HK)) ((unhide HQ0).call (unhide HK)) (unhide HK)
        refine wpAnyH_ready (rs := [8]) (by kernel_rfl) (by simp) ?_
        refine AllReadyH.cons (i := 8) (o := { dst := none, op := Op.store 30 (Operand.tmp 9) (Operand.tmp 51), type := 0, pos := "laws.go:1757", after := #[{ on := 7, ground := Ground.data }, { on := 6, ground := Ground.data }, { on := 6, ground := Ground.chain }, { on := 0, ground := Ground.phase }, { on := 1, ground := Ground.phase }, { on := 2, ground := Ground.phase }, { on := 3, ground := Ground.phase }, { on := 4, ground := Ground.phase }, { on := 5, ground := Ground.phase }, { on := 6, ground := Ground.phase }, { on := 7, ground := Ground.phase }], guard := none }) rfl (fun K hK => ?_) AllReadyH.nil
        have hAB := AnB.of (l := xl) (unhide HK) (unhide HLG) (unhide HN) (unhide HR) (unhide HE) (unhide LX)
        have HAB := hide hAB
        clear hAB
        obtain ⟨c0, c1_, c2_, cf⟩ := unhide HN
        have f0 := cf 0
        have f1 := cf 1
        have f2 := cf 2
        clear cf
        go_simp
        have hq := S15.of ((unhide HBX0).1.call (unhide HAB).1) ((unhide HBX0).2.1.call (unhide HAB).1) ((unhide HBX0).2.2.1.call (unhide HAB).1) ((unhide HP).call (unhide HAB).1) ((unhide HQ0).call (unhide HAB).1) (unhide HAB).1
        clear hHeld
        refine hK.out _ _ hq (fun hHeld => ?_)
        clear hK K hq c0 c1_ c2_ f0 f1 f2 hHeld
        try simp only [Act.put, List.setIfInBounds_toArray, List.set_cons_zero, List.set_cons_succ]
        refine wpAnyH_done (by kernel_rfl) ?_ _
        go_wp2_with fail
        go_meet
        exact ⟨pn, rfl, unhide HAB⟩
      · skip
        have HN := C3.new wz1 (.bool false) (.slice none 0 0) (.slice none 0 0) 30
        have hlg : ub.heap.size ≤ wz1.heap.size := (unhide HK).size
        have ka := (Below.refl _ wz1).alloc (Nat.le_refl _) (Obj.cells #[.bool false, .slice none 0 0, .slice none 0 0] 30)
        have HK := hide (fut_trans (unhide HK) ka)
        have HJ := hide (And.intro ((unhide HJ).1.call ka) ((unhide HJ).2.call ka))
        clear ka
        have hq := S15.of ((unhide HBX0).1.call (unhide HK)) ((unhide HBX0).2.1.call (unhide HK)) ((unhide HBX0).2.2.1.call (unhide HK)) ((unhide HP).call (unhide HK)) ((unhide HQ0).call (unhide HK)) (unhide HK)
        go_simp
        clear hHeld
        refine hK.out _ _ hq (fun hHeld => ?_)
        clear hK K hq
        try simp only [Act.put, List.setIfInBounds_toArray, List.set_cons_zero, List.set_cons_succ]
        clear hHeld
        generalize wz1.alloc (Obj.cells #[.bool false, .slice none 0 0, .slice none 0 0] 30) = wz2 at HN HK HJ ⊢
        generalize wz1.heap.size = pn at HN hlg ⊢
        have HN := hide HN
        have HLG := hide hlg
        clear hlg
        have hHeld := S15.of ((unhide HBX0).1.call (unhide HK)) ((unhide HBX0).2.1.call (unhide HK)) ((unhide HBX0).2.2.1.call (unhide HK)) ((unhide HP).call (unhide HK)) ((unhide HQ0).call (unhide HK)) (unhide HK)
        refine wpAnyH_ready (rs := [6]) (by kernel_rfl) (by simp) ?_
        refine AllReadyH.cons (i := 6) (o := { dst := some 51, op := Op.call { callee := Callee.value (Operand.func 15), args := #[Operand.tmp 45, Operand.tmp 49, Operand.tmp 50], argTypes := #[27, 30, 30] }, type := 30, pos := "laws.go:1757", after := #[{ on := 0, ground := Ground.data }, { on := 4, ground := Ground.data }, { on := 5, ground := Ground.data }, { on := 4, ground := Ground.chain }], guard := none }) rfl (fun K hK => ?_) AllReadyH.nil
        go_simp
        refine ((unhide KABC) _ _ _ _ _ (unhide HK) (unhide HJ)).mono ?_
        rintro e wz3 ⟨oj, cj, ok, ck, rfl, hre, kb⟩
        have hn : pn < wz2.heap.size := (unhide HN).lt
        have HK := hide (fut_trans (unhide HK) kb)
        have HN := hide ((unhide HN).call kb)
        have HR := RowsT.of hre
        generalize wz2.heap.size = Bz at HR hn
        generalize wz3.heap.size = Tz at HR
        have HR := hide HR
        have HE : Hid (pn < Bz ∨ Tz ≤ pn) := Or.inl hn
        clear hre HJ hn
        clear kb
        have hq := S15.of ((unhide HBX0).1.call (unhide HK)) ((unhide HBX0).2.1.call (unhide HK)) ((unhide HBX0).2.2.1.call (unhide HK)) ((unhide HP).call (unhide HK)) ((unhide HQ0).call (unhide HK)) (unhide HK)
        clear hHeld
        refine hK.out _ _ hq (fun hHeld => ?_)
        clear hK K hq
        try simp only [Act.put, List.setIfInBounds_toArray, List.set_cons_zero, List.set_cons_succ]
        refine wpAnyH_ready (rs := [8]) (by kernel_rfl) (by simp) ?_
        refine AllReadyH.cons (i := 8) (o := { dst := none, op := Op.store 30 (Operand.tmp 9) (Operand.tmp 51), type := 0, pos := "laws.go:1757", after := #[{ on := 7, ground := Ground.data }, { on := 6, ground := Ground.data }, { on := 6, ground := Ground.chain }, { on := 0, ground := Ground.phase }, { on := 1, ground := Ground.phase }, { on := 2, ground := Ground.phase }, { on := 3, ground := Ground.phase }, { on := 4, ground := Ground.phase }, { on := 5, ground := Ground.phase }, { on := 6, ground := Ground.phase }, { on := 7, ground := Ground.phase }], guard := none }) rfl (fun K hK => ?_) AllReadyH.nil
        have hAB := AnB.of (l := xl) (unhide HK) (unhide HLG) (unhide HN) (unhide HR) (unhide HE) (unhide LX)
        have HAB := hide hAB
        clear hAB
        obtain ⟨c0, c1_, c2_, cf⟩ := unhide HN
        have f0 := cf 0
        have f1 := cf 1
        have f2 := cf 2
        clear cf
        go_simp
        have hq := S15.of ((unhide HBX0).1.call (unhide HAB).1) ((unhide HBX0).2.1.call (unhide HAB).1) ((unhide HBX0).2.2.1.call (unhide HAB).1) ((unhide HP).call (unhide HAB).1) ((unhide HQ0).call (unhide HAB).1) (unhide HAB).1
        clear hHeld
        refine hK.out _ _ hq (fun hHeld => ?_)
        clear hK K hq c0 c1_ c2_ f0 f1 f2 hHeld
        try simp only [Act.put, List.setIfInBounds_toArray, List.set_cons_zero, List.set_cons_succ]
        refine wpAnyH_done (by kernel_rfl) ?_ _
        go_wp2_with fail
        go_meet
        exact ⟨pn, rfl, unhide HAB⟩
    · skip
      have HN := C3.new wz0 (.bool false) (.slice none 0 0) (.slice none 0 0) 30
      have hlg : ub.heap.size ≤ wz0.heap.size := (unhide HK).size
      have ka := (Below.refl _ wz0).alloc (Nat.le_refl _) (Obj.cells #[.bool false, .slice none 0 0, .slice none 0 0] 30)
      have HK := hide (fut_trans (unhide HK) ka)
      clear ka
      have hq := S15.of ((unhide HBX0).1.call (unhide HK)) ((unhide HBX0).2.1.call (unhide HK)) ((unhide HBX0).2.2.1.call (unhide HK)) ((unhide HP).call (unhide HK)) ((unhide HQ0).call (unhide HK)) (unhide HK)
      go_simp
      clear hHeld
      refine hK.out _ _ hq (fun hHeld => ?_)
      clear hK K hq
      try simp only [Act.put, List.setIfInBounds_toArray, List.set_cons_zero, List.set_cons_succ]
      clear hHeld
      generalize wz0.alloc (Obj.cells #[.bool false, .slice none 0 0, .slice none 0 0] 30) = wz1 at HN HK ⊢
      generalize wz0.heap.size = pn at HN hlg ⊢
      have HN := hide HN
      have HLG := hide hlg
      clear hlg
      have hHeld := S15.of ((unhide HBX0).1.call (unhide HK)) ((unhide HBX0).2.1.call (unhide HK)) ((unhide HBX0).2.2.1.call (unhide HK)) ((unhide HP).call (unhide HK)) ((unhide HQ0).call (unhide HK)) (unhide HK)
      refine wpAnyH_ready (rs := [4]) (by kernel_rfl) (by simp) ?_
      refine AllReadyH.cons (i := 4) (o := { dst := some 49, op := Op.call { callee := Callee.value (Operand.func 15), args := #[Operand.tmp 46, Operand.tmp 47, Operand.tmp 48], argTypes := #[27, 30, 30] }, type := 30, pos := "laws.go:1757", after := #[{ on := 1, ground := Ground.data }, { on := 2, ground := Ground.data }, { on := 3, ground := Ground.data }], guard := none }) rfl (fun K hK => ?_) AllReadyH.nil
      go_simp
      refine ((unhide KAB) _ (unhide HK)).mono ?_
      rintro e wz2 ⟨oj, cj, ok, ck, rfl, hre, kb⟩
      have hn : pn < wz1.heap.size := (unhide HN).lt
      have HK := hide (fut_trans (unhide HK) kb)
      have HN := hide ((unhide HN).call kb)
      have HJ := hide (hre.ivs (by have := unhide LJ; omega))
      clear hre hn
      clear kb
      have hq := S15.of ((unhide HBX0).1.call (unhide HK)) ((unhide HBX0).2.1.call (unhide HK)) ((unhide HBX0).2.2.1.call (unhide HK)) ((unhide HP).call (unhide HK)) ((unhide HQ0).call (unhide HK)) (unhide HK)
      clear hHeld
      refine hK.out _ _ hq (fun hHeld => ?_)
      clear hK K hq
      try simp only [Act.put, List.setIfInBounds_toArray, List.set_cons_zero, List.set_cons_succ]
      refine wpAnyH_ready (rs := [6]) (by kernel_rfl) (by simp) ?_
      refine AllReadyH.cons (i := 6) (o := { dst := some 51, op := Op.call { callee := Callee.value (Operand.func 15), args := #[Operand.tmp 45, Operand.tmp 49, Operand.tmp 50], argTypes := #[27, 30, 30] }, type := 30, pos := "laws.go:1757", after := #[{ on := 0, ground := Ground.data }, { on := 4, ground := Ground.data }, { on := 5, ground := Ground.data }, { on := 4, ground := Ground.chain }], guard := none }) rfl (fun K hK => ?_) AllReadyH.nil
      go_simp
      refine ((unhide KABC) _ _ _ _ _ (unhide HK) (unhide HJ)).mono ?_
      rintro e wz3 ⟨oj, cj, ok, ck, rfl, hre, kb⟩
      have hn : pn < wz2.heap.size := (unhide HN).lt
      have HK := hide (fut_trans (unhide HK) kb)
      have HN := hide ((unhide HN).call kb)
      have HR := RowsT.of hre
      generalize wz2.heap.size = Bz at HR hn
      generalize wz3.heap.size = Tz at HR
      have HR := hide HR
      have HE : Hid (pn < Bz ∨ Tz ≤ pn) := Or.inl hn
      clear hre HJ hn
      clear kb
      have hq := S15.of ((unhide HBX0).1.call (unhide HK)) ((unhide HBX0).2.1.call (unhide HK)) ((unhide HBX0).2.2.1.call (unhide HK)) ((unhide HP).call (unhide HK)) ((unhide HQ0).call (unhide HK)) (unhide HK)
      clear hHeld
      refine hK.out _ _ hq (fun hHeld => ?_)
      clear hK K hq
      try simp only [Act.put, List.setIfInBounds_toArray, List.set_cons_zero, List.set_cons_succ]
      refine wpAnyH_ready (rs := [8]) (by kernel_rfl) (by simp) ?_
      refine AllReadyH.cons (i := 8) (o := { dst := none, op := Op.store 30 (Operand.tmp 9) (Operand.tmp 51), type := 0, pos := "laws.go:1757", after := #[{ on := 7, ground := Ground.data }, { on := 6, ground := Ground.data }, { on := 6, ground := Ground.chain }, { on := 0, ground := Ground.phase }, { on := 1, ground := Ground.phase }, { on := 2, ground := Ground.phase }, { on := 3, ground := Ground.phase }, { on := 4, ground := Ground.phase }, { on := 5, ground := Ground.phase }, { on := 6, ground := Ground.phase }, { on := 7, ground := Ground.phase }], guard := none }) rfl (fun K hK => ?_) AllReadyH.nil
      have hAB := AnB.of (l := xl) (unhide HK) (unhide HLG) (unhide HN) (unhide HR) (unhide HE) (unhide LX)
      have HAB := hide hAB
      clear hAB
      obtain ⟨c0, c1_, c2_, cf⟩ := unhide HN
      have f0 := cf 0
      have f1 := cf 1
      have f2 := cf 2
      clear cf
      go_simp
      have hq := S15.of ((unhide HBX0).1.call (unhide HAB).1) ((unhide HBX0).2.1.call (unhide HAB).1) ((unhide HBX0).2.2.1.call (unhide HAB).1) ((unhide HP).call (unhide HAB).1) ((unhide HQ0).call (unhide HAB).1) (unhide HAB).1
      clear hHeld
      refine hK.out _ _ hq (fun hHeld => ?_)
      clear hK K hq c0 c1_ c2_ f0 f1 f2 hHeld
      try simp only [Act.put, List.setIfInBounds_toArray, List.set_cons_zero, List.set_cons_succ]
      refine wpAnyH_done (by kernel_rfl) ?_ _
      go_wp2_with fail
      go_meet
      exact ⟨pn, rfl, unhide HAB⟩
  case rest =>
    obtain ⟨gx, rfl, hab⟩ := hcut
    have HAX := hide hab
    clear hab
    generalize wc = v1 at HAX ⊢
    have HBX1 := hide (show C3 v1 _ _ _ _ ∧ C3 v1 _ _ _ _ ∧ C3 v1 _ _ _ _ from ⟨(unhide HBX0).1.call (unhide HAX).1, (unhide HBX0).2.1.call (unhide HAX).1, (unhide HBX0).2.2.1.call (unhide HAX).1⟩)
    have HP := hide ((unhide HP).call (unhide HAX).1)
    have HQ0 := HP
    go_upto_region 10 with fail
    go_cut [10] (fun p wc => ∃ g, p = .pointer (some ⟨g, 0, none⟩) ∧ AnB v1 g xl xx xy wc)
    case first =>
      have HBX0 := hide (show _ ∧ _ ∧ C3 v1 (u1.heap.size + 2) _ _ _ ∧ True from ⟨(unhide HBX1).1, (unhide HBX1).2.1, (unhide HBX1).2.2, trivial⟩)
      have HK := hide (Below.refl v1.heap.size v1).drew
      obtain ⟨wz0, hw0⟩ : ∃ x, x = v1.drew := ⟨_, rfl⟩
      rw [← hw0] at HK
      refine wp_region_held_drew (S := (S15 v1 u1.heap.size u4.heap.size u4.heap.size (.slice a1 vs.length c1) (.slice a2 fs.length c2) (.slice a3 rs.length c3) (.bool li) (.slice oa xs.length ca) (.slice ob ys.length cb) (.bool true) (.slice oc xs2.length cc) (.slice od ys2.length cd) (.bool true) (.slice oe xs3.length ce) (.slice og ys3.length cg) (.bool true) (.slice oe xs3.length ce) (.slice og ys3.length cg))) (by kernel_rfl) (by rw [← hw0]; exact S15.of ((unhide HBX0).1.call (unhide HK)) ((unhide HBX0).2.1.call (unhide HK)) ((unhide HBX0).2.2.1.call (unhide HK)) ((unhide HP).call (unhide HK)) ((unhide HQ0).call (unhide HK)) (unhide HK)) (fun hHeld => ?_)
      rw [← hw0] at hHeld ⊢
      clear hw0
      refine wpAnyH_take (i := 0) (oi := { dst := some 52, op := Op.load 27 (Operand.tmp 5), type := 27, pos := "laws.go:1758", after := #[], guard := none }) (v := ?_) rfl (by kernel_rfl) (by kernel_rfl) (by kernel_rfl) (fun _ _ _ h => h) (Or.inl ⟨by rfl, ?_⟩) (by assumption) ?_
      rotate_left
      · (intro w9 hSw; (try dsimp only at hSw); go_simp; try with_reducible rfl)
      try simp only [Act.put, List.setIfInBounds_toArray, List.set_cons_zero, List.set_cons_succ]
      refine wpAnyH_take (i := 1) (oi := { dst := some 53, op := Op.load 30 (Operand.tmp 6), type := 30, pos := "laws.go:1758", after := #[], guard := none }) (v := ?_) rfl (by kernel_rfl) (by kernel_rfl) (by kernel_rfl) (fun _ _ _ h => h) (Or.inl ⟨by rfl, ?_⟩) (by assumption) ?_
      rotate_left
      · (intro w9 hSw; (try dsimp only at hSw); go_simp; try with_reducible rfl)
      try simp only [Act.put, List.setIfInBounds_toArray, List.set_cons_zero, List.set_cons_succ]
      refine wpAnyH_take (i := 2) (oi := { dst := some 54, op := Op.load 27 (Operand.tmp 5), type := 27, pos := "laws.go:1758", after := #[], guard := none }) (v := ?_) rfl (by kernel_rfl) (by kernel_rfl) (by kernel_rfl) (fun _ _ _ h => h) (Or.inl ⟨by rfl, ?_⟩) (by assumption) ?_
      rotate_left
      · (intro w9 hSw; (try dsimp only at hSw); go_simp; try with_reducible rfl)
      try simp only [Act.put, List.setIfInBounds_toArray, List.set_cons_zero, List.set_cons_succ]
      refine wpAnyH_take (i := 3) (oi := { dst := some 55, op := Op.load 30 (Operand.tmp 8), type := 30, pos := "laws.go:1758", after := #[], guard := none }) (v := ?_) rfl (by kernel_rfl) (by kernel_rfl) (by kernel_rfl) (fun _ _ _ h => h) (Or.inl ⟨by rfl, ?_⟩) (by assumption) ?_
      rotate_left
      · (intro w9 hSw; (try dsimp only at hSw); go_simp; try with_reducible rfl)
      try simp only [Act.put, List.setIfInBounds_toArray, List.set_cons_zero, List.set_cons_succ]
      refine wpAnyH_take (i := 4) (oi := { dst := some 56, op := Op.load 30 (Operand.tmp 7), type := 30, pos := "laws.go:1758", after := #[], guard := none }) (v := ?_) rfl (by kernel_rfl) (by kernel_rfl) (by kernel_rfl) (fun _ _ _ h => h) (Or.inl ⟨by rfl, ?_⟩) (by assumption) ?_
      rotate_left
      · (intro w9 hSw; (try dsimp only at hSw); go_simp; try with_reducible rfl)
      try simp only [Act.put, List.setIfInBounds_toArray, List.set_cons_zero, List.set_cons_succ]
      refine wpAnyH_ready (rs := [5, 7]) (by kernel_rfl) (by simp) ?_
      refine AllReadyH.cons (i := 5) (o := { dst := some 57, op := Op.call { callee := Callee.value (Operand.func 15), args := #[Operand.tmp 54, Operand.tmp 55, Operand.tmp 56], argTypes := #[27, 30, 30] }, type := 30, pos := "laws.go:1758", after := #[{ on := 2, ground := Ground.data }, { on := 3, ground := Ground.data }, { on := 4, ground := Ground.data }], guard := none }) rfl (fun K hK => ?_) (AllReadyH.cons (i := 7) (o := { dst := some 10, op := Op.alloc 30, type := 0, pos := "laws.go:1758", after := #[], guard := none }) rfl (fun K hK => ?_) AllReadyH.nil)
      · skip
        go_simp
        refine ((unhide KCB) _ (fut_trans (unhide HAX).1 (unhide HK))).mono ?_
        rintro e wz1 ⟨oj, cj, ok, ck, rfl, hre, kb⟩
        have HK := hide (fut_trans (unhide HK) kb)
        have HJ := hide (hre.ivs (by have := unhide LK; omega))
        clear hre
        clear kb
        have hq := S15.of ((unhide HBX0).1.call (unhide HK)) ((unhide HBX0).2.1.call (unhide HK)) ((unhide HBX0).2.2.1.call (unhide HK)) ((unhide HP).call (unhide HK)) ((unhide HQ0).call (unhide HK)) (unhide HK)
        clear hHeld
        refine hK.out _ _ hq (fun hHeld => ?_)
        clear hK K hq
        try simp only [Act.put, List.setIfInBounds_toArray, List.set_cons_zero, List.set_cons_succ]
        refine wpAnyH_ready (rs := [6, 7]) (by kernel_rfl) (by simp) ?_
        refine AllReadyH.cons (i := 6) (o := { dst := some 58, op := Op.call { callee := Callee.value (Operand.func 15), args := #[Operand.tmp 52, Operand.tmp 53, Operand.tmp 57], argTypes := #[27, 30, 30] }, type := 30, pos := "laws.go:1758", after := #[{ on := 0, ground := Ground.data }, { on := 1, ground := Ground.data }, { on := 5, ground := Ground.data }, { on := 5, ground := Ground.chain }], guard := none }) rfl (fun K hK => ?_) (AllReadyH.cons (i := 7) (o := { dst := some 10, op := Op.alloc 30, type := 0, pos := "laws.go:1758", after := #[], guard := none }) rfl (fun K hK => ?_) AllReadyH.nil)
        · skip
          go_simp
          refine ((unhide KACB) _ _ _ _ _ (fut_trans (unhide HAX).1 (unhide HK)) (unhide HJ)).mono ?_
          rintro e wz2 ⟨oj, cj, ok, ck, rfl, hre, kb⟩
          have HK := hide (fut_trans (unhide HK) kb)
          have HR := RowsT.of hre
          generalize wz1.heap.size = Bz at HR
          generalize wz2.heap.size = Tz at HR
          have HR := hide HR
          clear hre HJ
          clear kb
          have hq := S15.of ((unhide HBX0).1.call (unhide HK)) ((unhide HBX0).2.1.call (unhide HK)) ((unhide HBX0).2.2.1.call (unhide HK)) ((unhide HP).call (unhide HK)) ((unhide HQ0).call (unhide HK)) (unhide HK)
          clear hHeld
          refine hK.out _ _ hq (fun hHeld => ?_)
          clear hK K hq
          try simp only [Act.put, List.setIfInBounds_toArray, List.set_cons_zero, List.set_cons_succ]
          refine wpAnyH_ready (rs := [7]) (by kernel_rfl) (by simp) ?_
          refine AllReadyH.cons (i := 7) (o := { dst := some 10, op := Op.alloc 30, type := 0, pos := "laws.go:1758", after := #[], guard := none }) rfl (fun K hK => ?_) AllReadyH.nil
          have HN := C3.new wz2 (.bool false) (.slice none 0 0) (.slice none 0 0) 30
          have hlg : v1.heap.size ≤ wz2.heap.size := (unhide HK).size
          have hn : Tz ≤ wz2.heap.size := (unhide HR).2.2.2
          have ka := (Below.refl _ wz2).alloc (Nat.le_refl _) (Obj.cells #[.bool false, .slice none 0 0, .slice none 0 0] 30)
          have HK := hide (fut_trans (unhide HK) ka)
          have HR := hide ((unhide HR).call ka)
          clear ka
          have hq := S15.of ((unhide HBX0).1.call (unhide HK)) ((unhide HBX0).2.1.call (unhide HK)) ((unhide HBX0).2.2.1.call (unhide HK)) ((unhide HP).call (unhide HK)) ((unhide HQ0).call (unhide HK)) (unhide HK)
          go_simp
          clear hHeld
          refine hK.out _ _ hq (fun hHeld => ?_)
          clear hK K hq
          try simp only [Act.put, List.setIfInBounds_toArray, List.set_cons_zero, List.set_cons_succ]
          clear hHeld
          generalize wz2.alloc (Obj.cells #[.bool false, .slice none 0 0, .slice none 0 0] 30) = wz3 at HN HK HR ⊢
          generalize wz2.heap.size = pn at HN hlg hn ⊢
          have HN := hide HN
          have HLG := hide hlg
          have HE : Hid (pn < Bz ∨ Tz ≤ pn) := Or.inr hn
          clear hlg hn
          have hHeld := S15.of ((unhide HBX0).1.call (unhide HK)) ((unhide HBX0).2.1.call (unhide HK)) ((unhide HBX0).2.2.1.call (unhide HK)) ((unhide HP).call (unhide HK)) ((unhide HQ0).call (unhide HK)) (unhide HK)
          refine wpAnyH_ready (rs := [8]) (by kernel_rfl) (by simp) ?_
          refine AllReadyH.cons (i := 8) (o := { dst := none, op := Op.store 30 (Operand.tmp 10) (Operand.tmp 58), type := 0, pos := "laws.go:1758", after := #[{ on := 7, ground := Ground.data }, { on := 6, ground := Ground.data }, { on := 6, ground := Ground.chain }, { on := 0, ground := Ground.phase }, { on := 1, ground := Ground.phase }, { on := 2, ground := Ground.phase }, { on := 3, ground := Ground.phase }, { on := 4, ground := Ground.phase }, { on := 5, ground := Ground.phase }, { on := 6, ground := Ground.phase }, { on := 7, ground := Ground.phase }], guard := none }) rfl (fun K hK => ?_) AllReadyH.nil
          have hAB := AnB.of (l := xl) (unhide HK) (unhide HLG) (unhide HN) (unhide HR) (unhide HE) (unhide LX)
          have HAB := hide hAB
          clear hAB
          obtain ⟨c0, c1_, c2_, cf⟩ := unhide HN
          have f0 := cf 0
          have f1 := cf 1
          have f2 := cf 2
          clear cf
          go_simp
          have hq := S15.of ((unhide HBX0).1.call (unhide HAB).1) ((unhide HBX0).2.1.call (unhide HAB).1) ((unhide HBX0).2.2.1.call (unhide HAB).1) ((unhide HP).call (unhide HAB).1) ((unhide HQ0).call (unhide HAB).1) (unhide HAB).1
          clear hHeld
          refine hK.out _ _ hq (fun hHeld => ?_)
          clear hK K hq c0 c1_ c2_ f0 f1 f2 hHeld
          try simp only [Act.put, List.setIfInBounds_toArray, List.set_cons_zero, List.set_cons_succ]
          refine wpAnyH_done (by kernel_rfl) ?_ _
          go_wp2_with fail
          go_meet
          exact ⟨pn, rfl, unhide HAB⟩
        · skip
          have HN := C3.new wz1 (.bool false) (.slice none 0 0) (.slice none 0 0) 30
          have hlg : v1.heap.size ≤ wz1.heap.size := (unhide HK).size
          have ka := (Below.refl _ wz1).alloc (Nat.le_refl _) (Obj.cells #[.bool false, .slice none 0 0, .slice none 0 0] 30)
          have HK := hide (fut_trans (unhide HK) ka)
          have HJ := hide (And.intro ((unhide HJ).1.call ka) ((unhide HJ).2.call ka))
          clear ka
          have hq := S15.of ((unhide HBX0).1.call (unhide HK)) ((unhide HBX0).2.1.call (unhide HK)) ((unhide HBX0).2.2.1.call (unhide HK)) ((unhide HP).call (unhide HK)) ((unhide HQ0).call (unhide HK)) (unhide HK)
          go_simp
          clear hHeld
          refine hK.out _ _ hq (fun hHeld => ?_)
          clear hK K hq
          try simp only [Act.put, List.setIfInBounds_toArray, List.set_cons_zero, List.set_cons_succ]
          clear hHeld
          generalize wz1.alloc (Obj.cells #[.bool false, .slice none 0 0, .slice none 0 0] 30) = wz2 at HN HK HJ ⊢
          generalize wz1.heap.size = pn at HN hlg ⊢
          have HN := hide HN
          have HLG := hide hlg
          clear hlg
          have hHeld := S15.of ((unhide HBX0).1.call (unhide HK)) ((unhide HBX0).2.1.call (unhide HK)) ((unhide HBX0).2.2.1.call (unhide HK)) ((unhide HP).call (unhide HK)) ((unhide HQ0).call (unhide HK)) (unhide HK)
          refine wpAnyH_ready (rs := [6]) (by kernel_rfl) (by simp) ?_
          refine AllReadyH.cons (i := 6) (o := { dst := some 58, op := Op.call { callee := Callee.value (Operand.func 15), args := #[Operand.tmp 52, Operand.tmp 53, Operand.tmp 57], argTypes := #[27, 30, 30] }, type := 30, pos := "laws.go:1758", after := #[{ on := 0, ground := Ground.data }, { on := 1, ground := Ground.data }, { on := 5, ground := Ground.data }, { on := 5, ground := Ground.chain }], guard := none }) rfl (fun K hK => ?_) AllReadyH.nil
          go_simp
          refine ((unhide KACB) _ _ _ _ _ (fut_trans (unhide HAX).1 (unhide HK)) (unhide HJ)).mono ?_
          rintro e wz3 ⟨oj, cj, ok, ck, rfl, hre, kb⟩
          have hn : pn < wz2.heap.size := (unhide HN).lt
          have HK := hide (fut_trans (unhide HK) kb)
          have HN := hide ((unhide HN).call kb)
          have HR := RowsT.of hre
          generalize wz2.heap.size = Bz at HR hn
          generalize wz3.heap.size = Tz at HR
          have HR := hide HR
          have HE : Hid (pn < Bz ∨ Tz ≤ pn) := Or.inl hn
          clear hre HJ hn
          clear kb
          have hq := S15.of ((unhide HBX0).1.call (unhide HK)) ((unhide HBX0).2.1.call (unhide HK)) ((unhide HBX0).2.2.1.call (unhide HK)) ((unhide HP).call (unhide HK)) ((unhide HQ0).call (unhide HK)) (unhide HK)
          clear hHeld
          refine hK.out _ _ hq (fun hHeld => ?_)
          clear hK K hq
          try simp only [Act.put, List.setIfInBounds_toArray, List.set_cons_zero, List.set_cons_succ]
          refine wpAnyH_ready (rs := [8]) (by kernel_rfl) (by simp) ?_
          refine AllReadyH.cons (i := 8) (o := { dst := none, op := Op.store 30 (Operand.tmp 10) (Operand.tmp 58), type := 0, pos := "laws.go:1758", after := #[{ on := 7, ground := Ground.data }, { on := 6, ground := Ground.data }, { on := 6, ground := Ground.chain }, { on := 0, ground := Ground.phase }, { on := 1, ground := Ground.phase }, { on := 2, ground := Ground.phase }, { on := 3, ground := Ground.phase }, { on := 4, ground := Ground.phase }, { on := 5, ground := Ground.phase }, { on := 6, ground := Ground.phase }, { on := 7, ground := Ground.phase }], guard := none }) rfl (fun K hK => ?_) AllReadyH.nil
          have hAB := AnB.of (l := xl) (unhide HK) (unhide HLG) (unhide HN) (unhide HR) (unhide HE) (unhide LX)
          have HAB := hide hAB
          clear hAB
          obtain ⟨c0, c1_, c2_, cf⟩ := unhide HN
          have f0 := cf 0
          have f1 := cf 1
          have f2 := cf 2
          clear cf
          go_simp
          have hq := S15.of ((unhide HBX0).1.call (unhide HAB).1) ((unhide HBX0).2.1.call (unhide HAB).1) ((unhide HBX0).2.2.1.call (unhide HAB).1) ((unhide HP).call (unhide HAB).1) ((unhide HQ0).call (unhide HAB).1) (unhide HAB).1
          clear hHeld
          refine hK.out _ _ hq (fun hHeld => ?_)
          clear hK K hq c0 c1_ c2_ f0 f1 f2 hHeld
          try simp only [Act.put, List.setIfInBounds_toArray, List.set_cons_zero, List.set_cons_succ]
          refine wpAnyH_done (by kernel_rfl) ?_ _
          go_wp2_with fail
          go_meet
          exact ⟨pn, rfl, unhide HAB⟩
      · skip
        have HN := C3.new wz0 (.bool false) (.slice none 0 0) (.slice none 0 0) 30
        have hlg : v1.heap.size ≤ wz0.heap.size := (unhide HK).size
        have ka := (Below.refl _ wz0).alloc (Nat.le_refl _) (Obj.cells #[.bool false, .slice none 0 0, .slice none 0 0] 30)
        have HK := hide (fut_trans (unhide HK) ka)
        clear ka
        have hq := S15.of ((unhide HBX0).1.call (unhide HK)) ((unhide HBX0).2.1.call (unhide HK)) ((unhide HBX0).2.2.1.call (unhide HK)) ((unhide HP).call (unhide HK)) ((unhide HQ0).call (unhide HK)) (unhide HK)
        go_simp
        clear hHeld
        refine hK.out _ _ hq (fun hHeld => ?_)
        clear hK K hq
        try simp only [Act.put, List.setIfInBounds_toArray, List.set_cons_zero, List.set_cons_succ]
        clear hHeld
        generalize wz0.alloc (Obj.cells #[.bool false, .slice none 0 0, .slice none 0 0] 30) = wz1 at HN HK ⊢
        generalize wz0.heap.size = pn at HN hlg ⊢
        have HN := hide HN
        have HLG := hide hlg
        clear hlg
        have hHeld := S15.of ((unhide HBX0).1.call (unhide HK)) ((unhide HBX0).2.1.call (unhide HK)) ((unhide HBX0).2.2.1.call (unhide HK)) ((unhide HP).call (unhide HK)) ((unhide HQ0).call (unhide HK)) (unhide HK)
        refine wpAnyH_ready (rs := [5]) (by kernel_rfl) (by simp) ?_
        refine AllReadyH.cons (i := 5) (o := { dst := some 57, op := Op.call { callee := Callee.value (Operand.func 15), args := #[Operand.tmp 54, Operand.tmp 55, Operand.tmp 56], argTypes := #[27, 30, 30] }, type := 30, pos := "laws.go:1758", after := #[{ on := 2, ground := Ground.data }, { on := 3, ground := Ground.data }, { on := 4, ground := Ground.data }], guard := none }) rfl (fun K hK => ?_) AllReadyH.nil
        go_simp
        refine ((unhide KCB) _ (fut_trans (unhide HAX).1 (unhide HK))).mono ?_
        rintro e wz2 ⟨oj, cj, ok, ck, rfl, hre, kb⟩
        have hn : pn < wz1.heap.size := (unhide HN).lt
        have HK := hide (fut_trans (unhide HK) kb)
        have HN := hide ((unhide HN).call kb)
        have HJ := hide (hre.ivs (by have := unhide LK; omega))
        clear hre hn
        clear kb
        have hq := S15.of ((unhide HBX0).1.call (unhide HK)) ((unhide HBX0).2.1.call (unhide HK)) ((unhide HBX0).2.2.1.call (unhide HK)) ((unhide HP).call (unhide HK)) ((unhide HQ0).call (unhide HK)) (unhide HK)
        clear hHeld
        refine hK.out _ _ hq (fun hHeld => ?_)
        clear hK K hq
        try simp only [Act.put, List.setIfInBounds_toArray, List.set_cons_zero, List.set_cons_succ]
        refine wpAnyH_ready (rs := [6]) (by kernel_rfl) (by simp) ?_
        refine AllReadyH.cons (i := 6) (o := { dst := some 58, op := Op.call { callee := Callee.value (Operand.func 15), args := #[Operand.tmp 52, Operand.tmp 53, Operand.tmp 57], argTypes := #[27, 30, 30] }, type := 30, pos := "laws.go:1758", after := #[{ on := 0, ground := Ground.data }, { on := 1, ground := Ground.data }, { on := 5, ground := Ground.data }, { on := 5, ground := Ground.chain }], guard := none }) rfl (fun K hK => ?_) AllReadyH.nil
        go_simp
        refine ((unhide KACB) _ _ _ _ _ (fut_trans (unhide HAX).1 (unhide HK)) (unhide HJ)).mono ?_
        rintro e wz3 ⟨oj, cj, ok, ck, rfl, hre, kb⟩
        have hn : pn < wz2.heap.size := (unhide HN).lt
        have HK := hide (fut_trans (unhide HK) kb)
        have HN := hide ((unhide HN).call kb)
        have HR := RowsT.of hre
        generalize wz2.heap.size = Bz at HR hn
        generalize wz3.heap.size = Tz at HR
        have HR := hide HR
        have HE : Hid (pn < Bz ∨ Tz ≤ pn) := Or.inl hn
        clear hre HJ hn
        clear kb
        have hq := S15.of ((unhide HBX0).1.call (unhide HK)) ((unhide HBX0).2.1.call (unhide HK)) ((unhide HBX0).2.2.1.call (unhide HK)) ((unhide HP).call (unhide HK)) ((unhide HQ0).call (unhide HK)) (unhide HK)
        clear hHeld
        refine hK.out _ _ hq (fun hHeld => ?_)
        clear hK K hq
        try simp only [Act.put, List.setIfInBounds_toArray, List.set_cons_zero, List.set_cons_succ]
        refine wpAnyH_ready (rs := [8]) (by kernel_rfl) (by simp) ?_
        refine AllReadyH.cons (i := 8) (o := { dst := none, op := Op.store 30 (Operand.tmp 10) (Operand.tmp 58), type := 0, pos := "laws.go:1758", after := #[{ on := 7, ground := Ground.data }, { on := 6, ground := Ground.data }, { on := 6, ground := Ground.chain }, { on := 0, ground := Ground.phase }, { on := 1, ground := Ground.phase }, { on := 2, ground := Ground.phase }, { on := 3, ground := Ground.phase }, { on := 4, ground := Ground.phase }, { on := 5, ground := Ground.phase }, { on := 6, ground := Ground.phase }, { on := 7, ground := Ground.phase }], guard := none }) rfl (fun K hK => ?_) AllReadyH.nil
        have hAB := AnB.of (l := xl) (unhide HK) (unhide HLG) (unhide HN) (unhide HR) (unhide HE) (unhide LX)
        have HAB := hide hAB
        clear hAB
        obtain ⟨c0, c1_, c2_, cf⟩ := unhide HN
        have f0 := cf 0
        have f1 := cf 1
        have f2 := cf 2
        clear cf
        go_simp
        have hq := S15.of ((unhide HBX0).1.call (unhide HAB).1) ((unhide HBX0).2.1.call (unhide HAB).1) ((unhide HBX0).2.2.1.call (unhide HAB).1) ((unhide HP).call (unhide HAB).1) ((unhide HQ0).call (unhide HAB).1) (unhide HAB).1
        clear hHeld
        refine hK.out _ _ hq (fun hHeld => ?_)
        clear hK K hq c0 c1_ c2_ f0 f1 f2 hHeld
        try simp only [Act.put, List.setIfInBounds_toArray, List.set_cons_zero, List.set_cons_succ]
        refine wpAnyH_done (by kernel_rfl) ?_ _
        go_wp2_with fail
        go_meet
        exact ⟨pn, rfl, unhide HAB⟩
    case rest =>
      obtain ⟨gy, rfl, hab⟩ := hcut
      have HAY := hide hab
      clear hab
      generalize wc = v2 at HAY ⊢
      obtain ⟨k1, g1, ox, cx, ox2, cx2, bx, ix1, ix2⟩ := unhide HAX
      obtain ⟨k2, g2, oy, cy, oy2, cy2, by_, iy1, iy2⟩ := unhide HAY
      have HK12 := hide (fut_trans k1 k2)
      have HXB := hide (bx.call k2)
      have HXI := hide (And.intro (ix1.call k2) (ix2.call k2))
      have HYB := hide by_
      have HYI := hide (And.intro iy1 iy2)
      have HBX0 := hide (show _ ∧ _ ∧ C3 v2 (u1.heap.size + 2) _ _ _ ∧ True from ⟨(unhide HBX1).1.call k2, (unhide HBX1).2.1.call k2, (unhide HBX1).2.2.call k2, trivial⟩)
      clear k1 k2 g1 g2 bx by_ ix1 ix2 iy1 iy2 HAX HAY HBX1 HP HQ0
      have HP := HXB
      have HQ0 := HYB
      go_upto_region 11 with fail
      have hs := S15.of ((unhide HBX0).1.call (Below.refl v2.heap.size v2)) ((unhide HBX0).2.1.call (Below.refl v2.heap.size v2)) ((unhide HBX0).2.2.1.call (Below.refl v2.heap.size v2)) ((unhide HP).call (Below.refl v2.heap.size v2)) ((unhide HQ0).call (Below.refl v2.heap.size v2)) (Below.refl v2.heap.size v2)
      have HHS := hide hs
      clear hs
      refine wp_region_held_drew (S := (S15 v2 u1.heap.size gx gy (.slice a1 vs.length c1) (.slice a2 fs.length c2) (.slice a3 rs.length c3) (.bool li) (.slice oa xs.length ca) (.slice ob ys.length cb) (.bool true) (.slice oc xs2.length cc) (.slice od ys2.length cd) (.bool xl) (.slice ox xx.length cx) (.slice ox2 xy.length cx2) (.bool xl) (.slice oy xx.length cy) (.slice oy2 xy.length cy2))) (by kernel_rfl) (S15.drew (unhide HHS)) (fun hHeld => ?_)
      refine wpAnyH_take (i := 0) (oi := { dst := some 59, op := Op.load 30 (Operand.tmp 9), type := 30, pos := "laws.go:1759", after := #[], guard := none }) (v := ?_) rfl (by kernel_rfl) (by kernel_rfl) (by kernel_rfl) (fun _ _ _ h => h) (Or.inl ⟨by rfl, ?_⟩) (by assumption) ?_
      rotate_left
      · (intro w9 hSw; (try dsimp only at hSw); go_simp; try with_reducible rfl)
      try simp only [Act.put, List.setIfInBounds_toArray, List.set_cons_zero, List.set_cons_succ]
      refine wpAnyH_take (i := 1) (oi := { dst := some 60, op := Op.load 30 (Operand.tmp 10), type := 30, pos := "laws.go:1759", after := #[], guard := none }) (v := ?_) rfl (by kernel_rfl) (by kernel_rfl) (by kernel_rfl) (fun _ _ _ h => h) (Or.inl ⟨by rfl, ?_⟩) (by assumption) ?_
      rotate_left
      · (intro w9 hSw; (try dsimp only at hSw); go_simp; try with_reducible rfl)
      try simp only [Act.put, List.setIfInBounds_toArray, List.set_cons_zero, List.set_cons_succ]
      refine wpAnyH_ready (rs := [2]) (by kernel_rfl) (by simp) ?_
      refine AllReadyH.cons (i := 2) (o := { dst := some 61, op := Op.call { callee := Callee.value (Operand.func 17), args := #[Operand.tmp 59, Operand.tmp 60], argTypes := #[30, 30] }, type := 4, pos := "laws.go:1759", after := #[{ on := 0, ground := Ground.data }, { on := 1, ground := Ground.data }], guard := none }) rfl (fun K hK => ?_) AllReadyH.nil
      go_simp
      refine (same_again (And.intro ((unhide HXI).1.call (S15.bel hHeld)) ((unhide HXI).2.call (S15.bel hHeld))) (And.intro ((unhide HYI).1.call (S15.bel hHeld)) ((unhide HYI).2.call (S15.bel hHeld)))).mono ?_
      rintro e u9 ⟨rfl, kb⟩
      have hq := S15.call hHeld kb
      clear kb hHeld
      refine hK.out _ _ hq (fun hHeld => ?_)
      clear hK K hq
      try simp only [Act.put, List.setIfInBounds_toArray, List.set_cons_zero, List.set_cons_succ]
      refine wpAnyH_take (i := 3) (oi := { dst := some 62, op := Op.move (Operand.tmp 61), type := 4, pos := "laws.go:1759", after := #[{ on := 2, ground := Ground.data }, { on := 2, ground := Ground.chain }], guard := none }) (v := ?_) rfl (by kernel_rfl) (by kernel_rfl) (by kernel_rfl) (fun _ _ _ h => h) (Or.inl ⟨by rfl, ?_⟩) (by assumption) ?_
      rotate_left
      · (intro w9 hSw; (try dsimp only at hSw); go_simp; try with_reducible rfl)
      try simp only [Act.put, List.setIfInBounds_toArray, List.set_cons_zero, List.set_cons_succ]
      refine wpAnyH_take (i := 4) (oi := { dst := some 63, op := Op.load 27 (Operand.tmp 5), type := 27, pos := "laws.go:1759", after := #[{ on := 3, ground := Ground.guard }], guard := some (3, true) }) (v := ?_) rfl (by kernel_rfl) (by kernel_rfl) (by kernel_rfl) (fun _ _ _ h => h) (Or.inl ⟨by rfl, ?_⟩) (by assumption) ?_
      rotate_left
      · (intro w9 hSw; (try dsimp only at hSw); go_simp; try with_reducible rfl)
      try simp only [Act.put, List.setIfInBounds_toArray, List.set_cons_zero, List.set_cons_succ]
      refine wpAnyH_take (i := 5) (oi := { dst := some 64, op := Op.load 30 (Operand.tmp 6), type := 30, pos := "laws.go:1759", after := #[{ on := 3, ground := Ground.guard }], guard := some (3, true) }) (v := ?_) rfl (by kernel_rfl) (by kernel_rfl) (by kernel_rfl) (fun _ _ _ h => h) (Or.inl ⟨by rfl, ?_⟩) (by assumption) ?_
      rotate_left
      · (intro w9 hSw; (try dsimp only at hSw); go_simp; try with_reducible rfl)
      try simp only [Act.put, List.setIfInBounds_toArray, List.set_cons_zero, List.set_cons_succ]
      refine wpAnyH_take (i := 6) (oi := { dst := some 65, op := Op.load 30 (Operand.tmp 6), type := 30, pos := "laws.go:1759", after := #[{ on := 3, ground := Ground.guard }], guard := some (3, true) }) (v := ?_) rfl (by kernel_rfl) (by kernel_rfl) (by kernel_rfl) (fun _ _ _ h => h) (Or.inl ⟨by rfl, ?_⟩) (by assumption) ?_
      rotate_left
      · (intro w9 hSw; (try dsimp only at hSw); go_simp; try with_reducible rfl)
      try simp only [Act.put, List.setIfInBounds_toArray, List.set_cons_zero, List.set_cons_succ]
      refine wpAnyH_take (i := 8) (oi := { dst := some 67, op := Op.load 30 (Operand.tmp 6), type := 30, pos := "laws.go:1759", after := #[{ on := 3, ground := Ground.guard }], guard := some (3, true) }) (v := ?_) rfl (by kernel_rfl) (by kernel_rfl) (by kernel_rfl) (fun _ _ _ h => h) (Or.inl ⟨by rfl, ?_⟩) (by assumption) ?_
      rotate_left
      · (intro w9 hSw; (try dsimp only at hSw); go_simp; try with_reducible rfl)
      try simp only [Act.put, List.setIfInBounds_toArray, List.set_cons_zero, List.set_cons_succ]
      refine wpAnyH_ready (rs := [7]) (by kernel_rfl) (by simp) ?_
      refine AllReadyH.cons (i := 7) (o := { dst := some 66, op := Op.call { callee := Callee.value (Operand.func 15), args := #[Operand.tmp 63, Operand.tmp 64, Operand.tmp 65], argTypes := #[27, 30, 30] }, type := 30, pos := "laws.go:1759", after := #[{ on := 4, ground := Ground.data }, { on := 5, ground := Ground.data }, { on := 6, ground := Ground.data }, { on := 3, ground := Ground.chain }, { on := 3, ground := Ground.guard }], guard := some (3, true) }) rfl (fun K hK => ?_) AllReadyH.nil
      go_simp
      refine ((unhide KAA) _ (fut_trans (unhide HK12) (S15.bel hHeld))).mono ?_
      rintro e u9 ⟨oj, cj, ok, ck, rfl, hre, kb⟩
      have HI := hide (hre.ivs (by have := unhide LA; have := unhide LJ; omega))
      clear hre
      have hq := S15.call hHeld kb
      clear kb hHeld
      refine hK.out _ _ hq (fun hHeld => ?_)
      clear hK K hq
      try simp only [Act.put, List.setIfInBounds_toArray, List.set_cons_zero, List.set_cons_succ]
      refine wpAnyH_ready (rs := [9]) (by kernel_rfl) (by simp) ?_
      refine AllReadyH.cons (i := 9) (o := { dst := some 68, op := Op.call { callee := Callee.value (Operand.func 17), args := #[Operand.tmp 66, Operand.tmp 67], argTypes := #[30, 30] }, type := 4, pos := "laws.go:1759", after := #[{ on := 7, ground := Ground.data }, { on := 8, ground := Ground.data }, { on := 7, ground := Ground.chain }, { on := 3, ground := Ground.guard }], guard := some (3, true) }) rfl (fun K hK => ?_) AllReadyH.nil
      go_simp
      refine (same_again (unhide HI) ((unhide HRA) _ (fut_trans (unhide HK12) (S15.bel hHeld)))).mono ?_
      rintro e u9 ⟨rfl, kb⟩
      clear HI
      have hq := S15.call hHeld kb
      clear kb hHeld
      refine hK.out _ _ hq (fun hHeld => ?_)
      clear hK K hq
      try simp only [Act.put, List.setIfInBounds_toArray, List.set_cons_zero, List.set_cons_succ]
      refine wpAnyH_take (i := 10) (oi := { dst := some 69, op := Op.pick (Operand.tmp 62) (Operand.tmp 68) (Operand.const (Value.bool false)), type := 4, pos := "laws.go:1759", after := #[{ on := 3, ground := Ground.data }, { on := 9, ground := Ground.data }], guard := none }) (v := ?_) rfl (by kernel_rfl) (by kernel_rfl) (by kernel_rfl) (fun _ _ _ h => h) (Or.inl ⟨by rfl, ?_⟩) (by assumption) ?_
      rotate_left
      · (intro w9 hSw; (try dsimp only at hSw); go_simp; try with_reducible rfl)
      try simp only [Act.put, List.setIfInBounds_toArray, List.set_cons_zero, List.set_cons_succ]
      refine wpAnyH_take (i := 11) (oi := { dst := some 70, op := Op.move (Operand.tmp 69), type := 4, pos := "laws.go:1759", after := #[{ on := 10, ground := Ground.data }, { on := 9, ground := Ground.chain }], guard := none }) (v := ?_) rfl (by kernel_rfl) (by kernel_rfl) (by kernel_rfl) (fun _ _ _ h => h) (Or.inl ⟨by rfl, ?_⟩) (by assumption) ?_
      rotate_left
      · (intro w9 hSw; (try dsimp only at hSw); go_simp; try with_reducible rfl)
      try simp only [Act.put, List.setIfInBounds_toArray, List.set_cons_zero, List.set_cons_succ]
      refine wpAnyH_take (i := 12) (oi := { dst := some 71, op := Op.load 27 (Operand.tmp 5), type := 27, pos := "laws.go:1759", after := #[{ on := 11, ground := Ground.guard }], guard := some (11, true) }) (v := ?_) rfl (by kernel_rfl) (by kernel_rfl) (by kernel_rfl) (fun _ _ _ h => h) (Or.inl ⟨by rfl, ?_⟩) (by assumption) ?_
      rotate_left
      · (intro w9 hSw; (try dsimp only at hSw); go_simp; try with_reducible rfl)
      try simp only [Act.put, List.setIfInBounds_toArray, List.set_cons_zero, List.set_cons_succ]
      refine wpAnyH_take (i := 13) (oi := { dst := some 72, op := Op.load 30 (Operand.tmp 6), type := 30, pos := "laws.go:1759", after := #[{ on := 11, ground := Ground.guard }], guard := some (11, true) }) (v := ?_) rfl (by kernel_rfl) (by kernel_rfl) (by kernel_rfl) (fun _ _ _ h => h) (Or.inl ⟨by rfl, ?_⟩) (by assumption) ?_
      rotate_left
      · (intro w9 hSw; (try dsimp only at hSw); go_simp; try with_reducible rfl)
      try simp only [Act.put, List.setIfInBounds_toArray, List.set_cons_zero, List.set_cons_succ]
      refine wpAnyH_take (i := 14) (oi := { dst := some 73, op := Op.load 30 (Operand.tmp 9), type := 30, pos := "laws.go:1759", after := #[{ on := 11, ground := Ground.guard }], guard := some (11, true) }) (v := ?_) rfl (by kernel_rfl) (by kernel_rfl) (by kernel_rfl) (fun _ _ _ h => h) (Or.inl ⟨by rfl, ?_⟩) (by assumption) ?_
      rotate_left
      · (intro w9 hSw; (try dsimp only at hSw); go_simp; try with_reducible rfl)
      try simp only [Act.put, List.setIfInBounds_toArray, List.set_cons_zero, List.set_cons_succ]
      refine wpAnyH_take (i := 16) (oi := { dst := some 75, op := Op.load 30 (Operand.tmp 6), type := 30, pos := "laws.go:1759", after := #[{ on := 11, ground := Ground.guard }], guard := some (11, true) }) (v := ?_) rfl (by kernel_rfl) (by kernel_rfl) (by kernel_rfl) (fun _ _ _ h => h) (Or.inl ⟨by rfl, ?_⟩) (by assumption) ?_
      rotate_left
      · (intro w9 hSw; (try dsimp only at hSw); go_simp; try with_reducible rfl)
      try simp only [Act.put, List.setIfInBounds_toArray, List.set_cons_zero, List.set_cons_succ]
      refine wpAnyH_ready (rs := [15]) (by kernel_rfl) (by simp) ?_
      refine AllReadyH.cons (i := 15) (o := { dst := some 74, op := Op.call { callee := Callee.value (Operand.func 16), args := #[Operand.tmp 71, Operand.tmp 72, Operand.tmp 73], argTypes := #[27, 30, 30] }, type := 30, pos := "laws.go:1759", after := #[{ on := 12, ground := Ground.data }, { on := 13, ground := Ground.data }, { on := 14, ground := Ground.data }, { on := 11, ground := Ground.chain }, { on := 11, ground := Ground.guard }], guard := some (11, true) }) rfl (fun K hK => ?_) AllReadyH.nil
      go_simp
      refine ((unhide KM) _ _ _ _ _ (fut_trans (unhide HK12) (S15.bel hHeld)) (And.intro ((unhide HXI).1.call (S15.bel hHeld)) ((unhide HXI).2.call (S15.bel hHeld)))).mono ?_
      rintro e u9 ⟨oj, cj, ok, ck, rfl, hre, kb⟩
      have HI := hide (hre.ivs (by have := unhide LA; have := unhide LJ; omega))
      clear hre
      have hq := S15.call hHeld kb
      clear kb hHeld
      refine hK.out _ _ hq (fun hHeld => ?_)
      clear hK K hq
      try simp only [Act.put, List.setIfInBounds_toArray, List.set_cons_zero, List.set_cons_succ]
      refine wpAnyH_ready (rs := [17]) (by kernel_rfl) (by simp) ?_
      refine AllReadyH.cons (i := 17) (o := { dst := some 76, op := Op.call { callee := Callee.value (Operand.func 17), args := #[Operand.tmp 74, Operand.tmp 75], argTypes := #[30, 30] }, type := 4, pos := "laws.go:1759", after := #[{ on := 15, ground := Ground.data }, { on := 16, ground := Ground.data }, { on := 15, ground := Ground.chain }, { on := 11, ground := Ground.guard }], guard := some (11, true) }) rfl (fun K hK => ?_) AllReadyH.nil
      go_simp
      refine (same_again (unhide HI) ((unhide HRA) _ (fut_trans (unhide HK12) (S15.bel hHeld)))).mono ?_
      rintro e u9 ⟨rfl, kb⟩
      clear HI
      have hq := S15.call hHeld kb
      clear kb hHeld
      refine hK.out _ _ hq (fun hHeld => ?_)
      clear hK K hq
      try simp only [Act.put, List.setIfInBounds_toArray, List.set_cons_zero, List.set_cons_succ]
      refine wpAnyH_take (i := 18) (oi := { dst := some 77, op := Op.pick (Operand.tmp 70) (Operand.tmp 76) (Operand.const (Value.bool false)), type := 4, pos := "laws.go:1759", after := #[{ on := 11, ground := Ground.data }, { on := 17, ground := Ground.data }], guard := none }) (v := ?_) rfl (by kernel_rfl) (by kernel_rfl) (by kernel_rfl) (fun _ _ _ h => h) (Or.inl ⟨by rfl, ?_⟩) (by assumption) ?_
      rotate_left
      · (intro w9 hSw; (try dsimp only at hSw); go_simp; try with_reducible rfl)
      try simp only [Act.put, List.setIfInBounds_toArray, List.set_cons_zero, List.set_cons_succ]
      refine wpAnyH_take (i := 19) (oi := { dst := some 78, op := Op.move (Operand.tmp 77), type := 4, pos := "laws.go:1759", after := #[{ on := 18, ground := Ground.data }, { on := 17, ground := Ground.chain }], guard := none }) (v := ?_) rfl (by kernel_rfl) (by kernel_rfl) (by kernel_rfl) (fun _ _ _ h => h) (Or.inl ⟨by rfl, ?_⟩) (by assumption) ?_
      rotate_left
      · (intro w9 hSw; (try dsimp only at hSw); go_simp; try with_reducible rfl)
      try simp only [Act.put, List.setIfInBounds_toArray, List.set_cons_zero, List.set_cons_succ]
      refine wpAnyH_take (i := 20) (oi := { dst := some 79, op := Op.load 27 (Operand.tmp 5), type := 27, pos := "laws.go:1759", after := #[{ on := 19, ground := Ground.guard }], guard := some (19, true) }) (v := ?_) rfl (by kernel_rfl) (by kernel_rfl) (by kernel_rfl) (fun _ _ _ h => h) (Or.inl ⟨by rfl, ?_⟩) (by assumption) ?_
      rotate_left
      · (intro w9 hSw; (try dsimp only at hSw); go_simp; try with_reducible rfl)
      try simp only [Act.put, List.setIfInBounds_toArray, List.set_cons_zero, List.set_cons_succ]
      refine wpAnyH_take (i := 21) (oi := { dst := some 80, op := Op.load 30 (Operand.tmp 6), type := 30, pos := "laws.go:1759", after := #[{ on := 19, ground := Ground.guard }], guard := some (19, true) }) (v := ?_) rfl (by kernel_rfl) (by kernel_rfl) (by kernel_rfl) (fun _ _ _ h => h) (Or.inl ⟨by rfl, ?_⟩) (by assumption) ?_
      rotate_left
      · (intro w9 hSw; (try dsimp only at hSw); go_simp; try with_reducible rfl)
      try simp only [Act.put, List.setIfInBounds_toArray, List.set_cons_zero, List.set_cons_succ]
      refine wpAnyH_take (i := 22) (oi := { dst := some 81, op := Op.load 30 (Operand.tmp 7), type := 30, pos := "laws.go:1759", after := #[{ on := 19, ground := Ground.guard }], guard := some (19, true) }) (v := ?_) rfl (by kernel_rfl) (by kernel_rfl) (by kernel_rfl) (fun _ _ _ h => h) (Or.inl ⟨by rfl, ?_⟩) (by assumption) ?_
      rotate_left
      · (intro w9 hSw; (try dsimp only at hSw); go_simp; try with_reducible rfl)
      try simp only [Act.put, List.setIfInBounds_toArray, List.set_cons_zero, List.set_cons_succ]
      refine wpAnyH_take (i := 24) (oi := { dst := some 83, op := Op.load 27 (Operand.tmp 5), type := 27, pos := "laws.go:1759", after := #[{ on := 19, ground := Ground.guard }], guard := some (19, true) }) (v := ?_) rfl (by kernel_rfl) (by kernel_rfl) (by kernel_rfl) (fun _ _ _ h => h) (Or.inl ⟨by rfl, ?_⟩) (by assumption) ?_
      rotate_left
      · (intro w9 hSw; (try dsimp only at hSw); go_simp; try with_reducible rfl)
      try simp only [Act.put, List.setIfInBounds_toArray, List.set_cons_zero, List.set_cons_succ]
      refine wpAnyH_take (i := 25) (oi := { dst := some 84, op := Op.load 30 (Operand.tmp 6), type := 30, pos := "laws.go:1759", after := #[{ on := 19, ground := Ground.guard }], guard := some (19, true) }) (v := ?_) rfl (by kernel_rfl) (by kernel_rfl) (by kernel_rfl) (fun _ _ _ h => h) (Or.inl ⟨by rfl, ?_⟩) (by assumption) ?_
      rotate_left
      · (intro w9 hSw; (try dsimp only at hSw); go_simp; try with_reducible rfl)
      try simp only [Act.put, List.setIfInBounds_toArray, List.set_cons_zero, List.set_cons_succ]
      refine wpAnyH_take (i := 26) (oi := { dst := some 85, op := Op.load 30 (Operand.tmp 7), type := 30, pos := "laws.go:1759", after := #[{ on := 19, ground := Ground.guard }], guard := some (19, true) }) (v := ?_) rfl (by kernel_rfl) (by kernel_rfl) (by kernel_rfl) (fun _ _ _ h => h) (Or.inl ⟨by rfl, ?_⟩) (by assumption) ?_
      rotate_left
      · (intro w9 hSw; (try dsimp only at hSw); go_simp; try with_reducible rfl)
      try simp only [Act.put, List.setIfInBounds_toArray, List.set_cons_zero, List.set_cons_succ]
      refine wpAnyH_ready (rs := [23]) (by kernel_rfl) (by simp) ?_
      refine AllReadyH.cons (i := 23) (o := { dst := some 82, op := Op.call { callee := Callee.value (Operand.func 15), args := #[Operand.tmp 79, Operand.tmp 80, Operand.tmp 81], argTypes := #[27, 30, 30] }, type := 30, pos := "laws.go:1759", after := #[{ on := 20, ground := Ground.data }, { on := 21, ground := Ground.data }, { on := 22, ground := Ground.data }, { on := 19, ground := Ground.chain }, { on := 19, ground := Ground.guard }], guard := some (19, true) }) rfl (fun K hK => ?_) AllReadyH.nil
      go_simp
      refine ((unhide KAB) _ (fut_trans (unhide HK12) (S15.bel hHeld))).mono ?_
      rintro e u9 ⟨oj, cj, ok, ck, rfl, hre, kb⟩
      have HI := hide (hre.ivs (by have := unhide LA; have := unhide LJ; omega))
      clear hre
      have hq := S15.call hHeld kb
      clear kb hHeld
      refine hK.out _ _ hq (fun hHeld => ?_)
      clear hK K hq
      try simp only [Act.put, List.setIfInBounds_toArray, List.set_cons_zero, List.set_cons_succ]
      refine wpAnyH_ready (rs := [27]) (by kernel_rfl) (by simp) ?_
      refine AllReadyH.cons (i := 27) (o := { dst := some 86, op := Op.call { callee := Callee.value (Operand.func 18), args := #[Operand.tmp 83, Operand.tmp 84, Operand.tmp 85], argTypes := #[27, 30, 30] }, type := 30, pos := "laws.go:1759", after := #[{ on := 24, ground := Ground.data }, { on := 25, ground := Ground.data }, { on := 26, ground := Ground.data }, { on := 23, ground := Ground.chain }, { on := 19, ground := Ground.guard }], guard := some (19, true) }) rfl (fun K hK => ?_) AllReadyH.nil
      go_simp
      refine ((unhide KS) _ (fut_trans (unhide HK12) (S15.bel hHeld))).mono ?_
      rintro e u9 ⟨oj2, cj2, ok2, ck2, rfl, hre, kb⟩
      have HI := hide (And.intro ((unhide HI).1.call kb) ((unhide HI).2.call kb))
      have HI2 := hide (hre.ivs (by have := unhide LA; have := unhide LJ; omega))
      clear hre
      have hq := S15.call hHeld kb
      clear kb hHeld
      refine hK.out _ _ hq (fun hHeld => ?_)
      clear hK K hq
      try simp only [Act.put, List.setIfInBounds_toArray, List.set_cons_zero, List.set_cons_succ]
      refine wpAnyH_ready (rs := [28]) (by kernel_rfl) (by simp) ?_
      refine AllReadyH.cons (i := 28) (o := { dst := some 87, op := Op.call { callee := Callee.value (Operand.func 17), args := #[Operand.tmp 82, Operand.tmp 86], argTypes := #[30, 30] }, type := 4, pos := "laws.go:1759", after := #[{ on := 23, ground := Ground.data }, { on := 27, ground := Ground.data }, { on := 27, ground := Ground.chain }, { on := 19, ground := Ground.guard }], guard := some (19, true) }) rfl (fun K hK => ?_) AllReadyH.nil
      go_simp
      refine (same_again (unhide HI) (unhide HI2)).mono ?_
      rintro e u9 ⟨rfl, kb⟩
      have hq := S15.call hHeld kb
      clear kb hHeld
      refine hK.out _ _ hq (fun hHeld => ?_)
      clear hK K hq
      try simp only [Act.put, List.setIfInBounds_toArray, List.set_cons_zero, List.set_cons_succ]
      refine wpAnyH_take (i := 29) (oi := { dst := some 88, op := Op.pick (Operand.tmp 78) (Operand.tmp 87) (Operand.const (Value.bool false)), type := 4, pos := "laws.go:1759", after := #[{ on := 19, ground := Ground.data }, { on := 28, ground := Ground.data }], guard := none }) (v := ?_) rfl (by kernel_rfl) (by kernel_rfl) (by kernel_rfl) (fun _ _ _ h => h) (Or.inl ⟨by rfl, ?_⟩) (by assumption) ?_
      rotate_left
      · (intro w9 hSw; (try dsimp only at hSw); go_simp; try with_reducible rfl)
      try simp only [Act.put, List.setIfInBounds_toArray, List.set_cons_zero, List.set_cons_succ]
      refine wpAnyH_take (i := 30) (oi := { dst := some 4, op := Op.assign (Operand.tmp 88), type := 4, pos := "laws.go:1759", after := #[{ on := 29, ground := Ground.data }, { on := 28, ground := Ground.chain }, { on := 0, ground := Ground.phase }, { on := 1, ground := Ground.phase }, { on := 2, ground := Ground.phase }, { on := 3, ground := Ground.phase }, { on := 4, ground := Ground.phase }, { on := 5, ground := Ground.phase }, { on := 6, ground := Ground.phase }, { on := 7, ground := Ground.phase }, { on := 8, ground := Ground.phase }, { on := 9, ground := Ground.phase }, { on := 10, ground := Ground.phase }, { on := 11, ground := Ground.phase }, { on := 12, ground := Ground.phase }, { on := 13, ground := Ground.phase }, { on := 14, ground := Ground.phase }, { on := 15, ground := Ground.phase }, { on := 16, ground := Ground.phase }, { on := 17, ground := Ground.phase }, { on := 18, ground := Ground.phase }, { on := 19, ground := Ground.phase }, { on := 20, ground := Ground.phase }, { on := 21, ground := Ground.phase }, { on := 22, ground := Ground.phase }, { on := 23, ground := Ground.phase }, { on := 24, ground := Ground.phase }, { on := 25, ground := Ground.phase }, { on := 26, ground := Ground.phase }, { on := 27, ground := Ground.phase }, { on := 28, ground := Ground.phase }, { on := 29, ground := Ground.phase }], guard := none }) (v := ?_) rfl (by kernel_rfl) (by kernel_rfl) (by kernel_rfl) (fun _ _ _ h => h) (Or.inl ⟨by rfl, ?_⟩) (by assumption) ?_
      rotate_left
      · (intro w9 hSw; (try dsimp only at hSw); go_simp; try with_reducible rfl)
      try simp only [Act.put, List.setIfInBounds_toArray, List.set_cons_zero, List.set_cons_succ]
      refine wpAnyH_done (by kernel_rfl) ?_ _
      have HB := hide ((unhide HB).trans ((fut_trans (unhide HK12) (S15.bel hHeld)).mono (unhide HB).size))
      clear hHeld
      go_wp2
      go_ret
      exact ⟨rfl, unhide HB⟩
end Go.Proofs.YtoipaejbkcdioaaDoor
