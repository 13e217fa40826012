/- What is widened is above both, and stays: the walk of the law. -/
import Derived.Test.YtoipaejbkcdioaaDoorJnZ
import Derived.Test.YtoipaejbkcdioaaDoorDwdC
import Derived.Test.YtoipaejbkcdioaaDoorWdM
import Derived.Test.YtoipaejbkcdioaaDoorLeqD
namespace Go.Proofs.YtoipaejbkcdioaaDoor
open Go.RowKit Go.Iv
set_option linter.unusedSimpArgs false
set_option linter.unusedVariables false

section
variable {st : List Int} {vs fs : List ByteArray} {rs : List (ByteArray × Int)} {li lj : Bool} {xs ys xs2 ys2 : List (Int × Int)}
/-- Where both are right, and there are not too many steps. -/
theorem wdn_good (hn : st.length ≤ 100) (h1 : envB vs fs rs li xs ys = true) (h2 : envB vs fs rs lj xs2 ys2 = true) (hi : InL xs2 ∧ InL ys2) {wl : Bool} {wx wy : List (Int × Int)} (e : wdnL st vs fs rs li xs ys lj xs2 ys2 = wl ∧ wdnV st vs fs rs li xs ys lj xs2 ys2 = (wx, wy)) :
    leqD vs fs rs li xs ys wl wx wy = true ∧ leqD vs fs rs lj xs2 ys2 wl wx wy = true ∧ (wdnL st vs fs rs wl wx wy lj xs2 ys2 = wl ∧ wdnV st vs fs rs wl wx wy lj xs2 ys2 = (wx, wy)) ∧ (wdnL [] vs fs rs wl wx wy li xs ys = wl ∧ wdnV [] vs fs rs wl wx wy li xs ys = (wx, wy)) := by
  have q := wdn_above hn h1 h2 hi
  have k := wdn_ws hn h1 h2
  have e1 : (li || lj) = wl := k.1.symm.trans e.1
  have e2 : wsV st li lj xs ys xs2 ys2 = (wx, wy) := k.2.symm.trans e.2
  rw [e1, e2] at q
  exact ⟨q.2.1, q.2.2, wdn_stay hn q.2.2, wdn_stay (by simp) q.2.1⟩
end
theorem leqD_at {u : World} {a1 a2 a3 oa ob oc od : Option Addr} {c1 c2 c3 ca cb cc cd : Nat} {vs fs : List ByteArray} {rs : List (ByteArray × Int)} {li lj : Bool} {xs ys xs2 ys2 : List (Int × Int)} (hw : KW u) (hv : Strs u a1 vs) (hf : Strs u a2 fs) (hr : Arrs u a3 rs) (hz : ∀ x ∈ namesOf vs fs rs, x.size ≤ 1048576) (p : Ivs u oa xs ∧ Ivs u ob ys) (q : Ivs u oc xs2 ∧ Ivs u od ys2) (e : leqD vs fs rs li xs ys lj xs2 ys2 = true) :
    Calls Tryd.prog 20 #[.agg #[.slice a1 vs.length c1, .slice a2 fs.length c2, .slice a3 rs.length c3], .agg #[.bool li, .slice oa xs.length ca, .slice ob ys.length cb], .agg #[.bool lj, .slice oc xs2.length cc, .slice od ys2.length cd]] u fun e w' => e = .returned (.bool true) ∧ Below u.heap.size u w' := by
  have k := iEnvLeq_c a1 a2 a3 c1 c2 c3 vs fs rs li oa ob ca cb xs ys lj oc od cc cd xs2 ys2 u hw hv hf hr hz p.1 p.2 q.1 q.2
  rw [e] at k
  exact k
set_option maxRecDepth 20000 in
set_option maxHeartbeats 32000000 in
theorem lawEnvWiden (a0 : Option Addr) (len0 cap0 : Nat) (z0 : List Int) (w : World) (hw : KW w) (w0 : IsRow .u8 w a0 len0 cap0 z0) :
    Calls Tryd.prog 5 #[.slice a0 len0 cap0] w fun e w' => e = .returned (.bool true) ∧ Below w.heap.size w w' := by
  have HW := hide hw
  clear hw
  by_cases hbig : 1048576 < len0
  · have hm := row_len w0
    clear w0
    go_enter Tryd.func5, Tryd.ntmps5
    go_wp2_with fail
    refine (big_yes _ _ _ hbig hm _).mono ?_
    rintro e w' ⟨rfl, rfl⟩
    go_wp2
    go_ret
    exact ⟨rfl, Below.refl _ _⟩
  have hs : len0 ≤ 1048576 := by omega
  have CD := hide (code_of_row w0 hs)
  clear w0 hbig
  go_enter Tryd.func5, Tryd.ntmps5
  go_wp2_with fail
  refine (big_c _ _ _ hs _).mono ?_
  rintro e w' ⟨rfl, rfl⟩
  go_wp2_with fail
  refine (DrawEnvWiden_c _ _ _ _ (unhide CD)).mono ?_
  rintro e u1 ⟨a1, a2, a3, c1, c2, c3, vs, fs, rs, li, oa, ca, ob, cb, xs, ys, lj, oc, cc, od, cd, xs2, ys2, sg, sc, st, rfl, s1, s2, s3, hz, ⟨i1, i2⟩, ⟨i3, i4⟩, ⟨_, _, n3, n4⟩, hst, kb⟩
  have LL := hide (show xs.length ≤ 1048576 ∧ ys.length ≤ 1048576 ∧ xs2.length ≤ 1048576 ∧ ys2.length ≤ 1048576 from ⟨i1.1, i2.1, i3.1, i4.1⟩)
  have HRW := hide (show OrR u1 a1 a2 a3 vs fs rs oa ob xs ys oc od xs2 ys2 from ⟨(unhide HW).call kb, s1, s2, s3, i1, i2, i3, i4⟩)
  have HZ := hide hz
  have HB := hide kb
  have HIN := hide (And.intro n3 n4)
  have HST := hide hst
  have hst63 : st.length ≤ 1048576 := hst.1
  clear s1 s2 s3 hz i1 i2 i3 i4 kb n3 n4 hst
  have HBX := hide (B3.new u1 (.slice a1 vs.length c1) (.slice a2 fs.length c2) (.slice a3 rs.length c3) (.bool li) (.slice oa xs.length ca) (.slice ob ys.length cb) (.bool lj) (.slice oc xs2.length cc) (.slice od ys2.length cd) 27 30 30)
  have ka := (((Below.refl _ u1).alloc (Nat.le_refl _) (Obj.cells #[.slice a1 vs.length c1, .slice a2 fs.length c2, .slice a3 rs.length c3] 27)).alloc (by simp) (Obj.cells #[.bool li, .slice oa xs.length ca, .slice ob ys.length cb] 30)).alloc (by simp; omega) (Obj.cells #[.bool lj, .slice oc xs2.length cc, .slice od ys2.length cd] 30)
  have HRW := hide ((unhide HRW).call ka)
  have HST := hide ((unhide HST).call ka)
  have HB := hide ((unhide HB).trans (ka.mono (unhide HB).size))
  go_upto_region 4 with fail
  generalize ((u1.alloc (Obj.cells #[.slice a1 vs.length c1, .slice a2 fs.length c2, .slice a3 rs.length c3] 27)).alloc (Obj.cells #[.bool li, .slice oa xs.length ca, .slice ob ys.length cb] 30)).alloc (Obj.cells #[.bool lj, .slice oc xs2.length cc, .slice od ys2.length cd] 30) = ub at HBX HRW HB HST ⊢
  clear ka
  obtain ⟨wl, wx, wy, he, hln⟩ : ∃ (wl : Bool) (wx wy : List (Int × Int)), (wdnL st vs fs rs li xs ys lj xs2 ys2 = wl ∧ wdnV st vs fs rs li xs ys lj xs2 ys2 = (wx, wy)) ∧ (wx.length ≤ 1048576 ∧ wy.length ≤ 1048576) := ⟨_, _, _, ⟨rfl, rfl⟩, wdnV_len st vs fs rs li xs ys lj xs2 ys2 1048576 (by have := unhide LL; omega)⟩
  have HE := hide he
  have LW := hide hln
  clear he hln
  have KW1 : Hid (∀ w, Below ub.heap.size ub w → Calls Tryd.prog 23 #[.agg #[.slice a1 vs.length c1, .slice a2 fs.length c2, .slice a3 rs.length c3], .agg #[.bool li, .slice oa xs.length ca, .slice ob ys.length cb], .agg #[.bool lj, .slice oc xs2.length cc, .slice od ys2.length cd], .slice (some ⟨sg, 0, none⟩) st.length sc] w (Ans3 wl wx wy w)) := fun w k => by
    have q := iEnvWiden_c a1 a2 a3 c1 c2 c3 vs fs rs li oa ob ca cb xs ys lj oc od cc cd xs2 ys2 (some ⟨sg, 0, none⟩) sc st w ((unhide HRW).1.call k) ((unhide HRW).2.1.call k) ((unhide HRW).2.2.1.call k) ((unhide HRW).2.2.2.1.call k) (unhide HZ) ((unhide HRW).2.2.2.2.1.call k) ((unhide HRW).2.2.2.2.2.1.call k) ((unhide HRW).2.2.2.2.2.2.1.call k) ((unhide HRW).2.2.2.2.2.2.2.call k) ((unhide HST).call k)
    rw [(unhide HE).1, (unhide HE).2] at q
    exact q
  have KWS : Hid (∀ w, Below ub.heap.size ub w → Calls Tryd.prog 24 #[.agg #[.slice a1 vs.length c1, .slice a2 fs.length c2, .slice a3 rs.length c3], .agg #[.bool li, .slice oa xs.length ca, .slice ob ys.length cb], .agg #[.bool lj, .slice oc xs2.length cc, .slice od ys2.length cd], .slice (some ⟨sg, 0, none⟩) st.length sc] w (Ans3 wl wx wy w)) := fun w k => by
    have q := sEnvWiden_c a1 a2 a3 c1 c2 c3 vs fs rs li oa ob ca cb xs ys lj oc od cc cd xs2 ys2 (some ⟨sg, 0, none⟩) sc st w ((unhide HRW).2.1.call k) ((unhide HRW).2.2.1.call k) ((unhide HRW).2.2.2.1.call k) (unhide HZ) ((unhide HRW).2.2.2.2.1.call k) ((unhide HRW).2.2.2.2.2.1.call k) ((unhide HRW).2.2.2.2.2.2.1.call k) ((unhide HRW).2.2.2.2.2.2.2.call k) ((unhide HST).call k)
    rw [(unhide HE).1, (unhide HE).2] at q
    exact q
  have KA : Hid (∀ w, Below ub.heap.size ub w → Calls Tryd.prog 12 #[.agg #[.slice a1 vs.length c1, .slice a2 fs.length c2, .slice a3 rs.length c3], .agg #[.bool li, .slice oa xs.length ca, .slice ob ys.length cb]] w fun e w' => e = .returned (.bool (envB vs fs rs li xs ys)) ∧ Below w.heap.size w w') := fun w k => sEnvOk_c a1 a2 a3 c1 c2 c3 vs fs rs li oa ob ca cb xs ys w ((unhide HRW).2.1.call k) ((unhide HRW).2.2.1.call k) ((unhide HRW).2.2.2.1.call k) (unhide HZ) ((unhide HRW).2.2.2.2.1.call k) ((unhide HRW).2.2.2.2.2.1.call k)
  have KB : Hid (∀ w, Below ub.heap.size ub w → Calls Tryd.prog 12 #[.agg #[.slice a1 vs.length c1, .slice a2 fs.length c2, .slice a3 rs.length c3], .agg #[.bool lj, .slice oc xs2.length cc, .slice od ys2.length cd]] w fun e w' => e = .returned (.bool (envB vs fs rs lj xs2 ys2)) ∧ Below w.heap.size w w') := fun w k => sEnvOk_c a1 a2 a3 c1 c2 c3 vs fs rs lj oc od cc cd xs2 ys2 w ((unhide HRW).2.1.call k) ((unhide HRW).2.2.1.call k) ((unhide HRW).2.2.2.1.call k) (unhide HZ) ((unhide HRW).2.2.2.2.2.2.1.call k) ((unhide HRW).2.2.2.2.2.2.2.call k)
  obtain ⟨A, hA⟩ : ∃ A, envB vs fs rs li xs ys = A := ⟨_, rfl⟩
  obtain ⟨B, hB⟩ : ∃ B, envB vs fs rs lj xs2 ys2 = B := ⟨_, rfl⟩
  rw [hA] at KA
  rw [hB] at KB
  have HA := hide hA
  have HBB := hide hB
  clear hA hB
  have q0 := (unhide HBX).1.1
  have q1 := (unhide HBX).1.2.1
  have q2 := (unhide HBX).1.2.2.1
  have q3 := (unhide HBX).2.1.1
  have q4 := (unhide HBX).2.1.2.1
  have q5 := (unhide HBX).2.1.2.2.1
  have q6 := (unhide HBX).2.2.1.1
  have q7 := (unhide HBX).2.2.1.2.1
  have q8 := (unhide HBX).2.2.1.2.2.1
  go_wp2_with fail
  refine ((unhide KW1) _ (Below.refl _ _)).mono ?_
  rintro e u3 ⟨ox, cx, oy, cy, rfl, hre, kb⟩
  have HJI := hide (hre.ivs (unhide LW))
  have HJB := hide (C3.new u3 (.bool wl) (.slice ox wx.length cx) (.slice oy wy.length cy) 30)
  have HK := hide (fut_alloc kb (Obj.cells #[.bool wl, .slice ox wx.length cx, .slice oy wy.length cy] 30))
  have ka := (Below.refl _ u3).alloc (Nat.le_refl _) (Obj.cells #[.bool wl, .slice ox wx.length cx, .slice oy wy.length cy] 30)
  have HJI := hide (And.intro ((unhide HJI).1.call ka) ((unhide HJI).2.call ka))
  clear hre kb ka q0 q1 q2 q3 q4 q5 q6 q7 q8
  go_upto_region 5 with fail
  generalize u3.alloc (Obj.cells #[.bool wl, .slice ox wx.length cx, .slice oy wy.length cy] 30) = u4 at HJI HJB HK ⊢
  generalize u3.heap.size = pj at HJB ⊢
  cases A
  · skip
    have hs := S15.of ((unhide HBX).1.call (unhide HK)) ((unhide HBX).2.1.call (unhide HK)) ((unhide HBX).2.2.1.call (unhide HK)) (unhide HJB) (unhide HJB) (Below.refl u4.heap.size u4)
    have HHS := hide hs
    clear hs
    refine wp_region_held_drew (S := (S15 u4 u1.heap.size pj pj (.slice a1 vs.length c1) (.slice a2 fs.length c2) (.slice a3 rs.length c3) (.bool li) (.slice oa xs.length ca) (.slice ob ys.length cb) (.bool lj) (.slice oc xs2.length cc) (.slice od ys2.length cd) (.bool wl) (.slice ox wx.length cx) (.slice oy wy.length cy) (.bool wl) (.slice ox wx.length cx) (.slice oy wy.length cy))) (by kernel_rfl) (S15.drew (unhide HHS)) (fun hHeld => ?_)
    refine wpAnyH_take (i := 0) (oi := { dst := some 22, op := Op.load 30 (Operand.tmp 7), type := 30, pos := "laws.go:726", after := #[], guard := none }) (v := ?_) rfl (by kernel_rfl) (by kernel_rfl) (by kernel_rfl) (fun _ _ _ h => h) (Or.inl ⟨by rfl, ?_⟩) (by assumption) ?_
    rotate_left
    · (intro w9 hSw; (try dsimp only at hSw); go_simp; try with_reducible rfl)
    try simp only [Act.put, List.setIfInBounds_toArray, List.set_cons_zero, List.set_cons_succ]
    refine wpAnyH_take (i := 1) (oi := { dst := some 23, op := Op.load 27 (Operand.tmp 3), type := 27, pos := "laws.go:726", after := #[], guard := none }) (v := ?_) rfl (by kernel_rfl) (by kernel_rfl) (by kernel_rfl) (fun _ _ _ h => h) (Or.inl ⟨by rfl, ?_⟩) (by assumption) ?_
    rotate_left
    · (intro w9 hSw; (try dsimp only at hSw); go_simp; try with_reducible rfl)
    try simp only [Act.put, List.setIfInBounds_toArray, List.set_cons_zero, List.set_cons_succ]
    refine wpAnyH_take (i := 2) (oi := { dst := some 24, op := Op.load 30 (Operand.tmp 4), type := 30, pos := "laws.go:726", after := #[], guard := none }) (v := ?_) rfl (by kernel_rfl) (by kernel_rfl) (by kernel_rfl) (fun _ _ _ h => h) (Or.inl ⟨by rfl, ?_⟩) (by assumption) ?_
    rotate_left
    · (intro w9 hSw; (try dsimp only at hSw); go_simp; try with_reducible rfl)
    try simp only [Act.put, List.setIfInBounds_toArray, List.set_cons_zero, List.set_cons_succ]
    refine wpAnyH_take (i := 3) (oi := { dst := some 25, op := Op.load 30 (Operand.tmp 5), type := 30, pos := "laws.go:726", after := #[], guard := none }) (v := ?_) rfl (by kernel_rfl) (by kernel_rfl) (by kernel_rfl) (fun _ _ _ h => h) (Or.inl ⟨by rfl, ?_⟩) (by assumption) ?_
    rotate_left
    · (intro w9 hSw; (try dsimp only at hSw); go_simp; try with_reducible rfl)
    try simp only [Act.put, List.setIfInBounds_toArray, List.set_cons_zero, List.set_cons_succ]
    refine wpAnyH_take (i := 4) (oi := { dst := some 26, op := Op.move (Operand.tmp 6), type := 33, pos := "laws.go:726", after := #[], guard := none }) (v := ?_) rfl (by kernel_rfl) (by kernel_rfl) (by kernel_rfl) (fun _ _ _ h => h) (Or.inl ⟨by rfl, ?_⟩) (by assumption) ?_
    rotate_left
    · (intro w9 hSw; (try dsimp only at hSw); go_simp; try with_reducible rfl)
    try simp only [Act.put, List.setIfInBounds_toArray, List.set_cons_zero, List.set_cons_succ]
    refine wpAnyH_ready (rs := [5]) (by kernel_rfl) (by simp) ?_
    refine AllReadyH.cons (i := 5) (o := { dst := some 27, op := Op.call { callee := Callee.value (Operand.func 24), args := #[Operand.tmp 23, Operand.tmp 24, Operand.tmp 25, Operand.tmp 26], argTypes := #[27, 30, 30, 33] }, type := 30, pos := "laws.go:726", after := #[{ on := 1, ground := Ground.data }, { on := 2, ground := Ground.data }, { on := 3, ground := Ground.data }, { on := 4, ground := Ground.data }], guard := none }) rfl (fun K hK => ?_) AllReadyH.nil
    go_simp
    refine ((unhide KWS) _ (fut_trans (unhide HK) (S15.bel hHeld))).mono ?_
    rintro e u9 ⟨o1, n1, o2, n2, rfl, hre, kb⟩
    have HI := hide (hre.ivs (unhide LW))
    clear hre
    have hq := S15.call hHeld kb
    clear kb hHeld
    refine hK.out _ _ hq (fun hHeld => ?_)
    clear hK K hq
    try simp only [Act.put, List.setIfInBounds_toArray, List.set_cons_zero, List.set_cons_succ]
    refine wpAnyH_ready (rs := [6]) (by kernel_rfl) (by simp) ?_
    refine AllReadyH.cons (i := 6) (o := { dst := some 28, op := Op.call { callee := Callee.value (Operand.func 17), args := #[Operand.tmp 22, Operand.tmp 27], argTypes := #[30, 30] }, type := 4, pos := "laws.go:726", after := #[{ on := 0, ground := Ground.data }, { on := 5, ground := Ground.data }, { on := 5, ground := Ground.chain }], guard := none }) rfl (fun K hK => ?_) AllReadyH.nil
    go_simp
    refine (same_again (And.intro ((unhide HJI).1.call (S15.bel hHeld)) ((unhide HJI).2.call (S15.bel hHeld))) (unhide HI)).mono ?_
    rintro e u9 ⟨rfl, kb⟩
    clear HI
    have hq := S15.call hHeld kb
    clear kb hHeld
    refine hK.out _ _ hq (fun hHeld => ?_)
    clear hK K hq
    try simp only [Act.put, List.setIfInBounds_toArray, List.set_cons_zero, List.set_cons_succ]
    refine wpAnyH_take (i := 7) (oi := { dst := some 29, op := Op.unOp UnOp.not 4 (Operand.tmp 28), type := 4, pos := "laws.go:726", after := #[{ on := 6, ground := Ground.data }], guard := none }) (v := ?_) rfl (by kernel_rfl) (by kernel_rfl) (by kernel_rfl) (fun _ _ _ h => h) (Or.inl ⟨by rfl, ?_⟩) (by assumption) ?_
    rotate_left
    · (intro w9 hSw; (try dsimp only at hSw); go_simp; try with_reducible rfl)
    try simp only [Act.put, List.setIfInBounds_toArray, List.set_cons_zero, List.set_cons_succ]
    refine wpAnyH_take (i := 8) (oi := { dst := some 30, op := Op.move (Operand.tmp 29), type := 4, pos := "laws.go:726", after := #[{ on := 7, ground := Ground.data }, { on := 6, ground := Ground.chain }], guard := none }) (v := ?_) rfl (by kernel_rfl) (by kernel_rfl) (by kernel_rfl) (fun _ _ _ h => h) (Or.inl ⟨by rfl, ?_⟩) (by assumption) ?_
    rotate_left
    · (intro w9 hSw; (try dsimp only at hSw); go_simp; try with_reducible rfl)
    try simp only [Act.put, List.setIfInBounds_toArray, List.set_cons_zero, List.set_cons_succ]
    refine wpAnyH_take (i := 9) (oi := { dst := some 31, op := Op.load 27 (Operand.tmp 3), type := 27, pos := "laws.go:726", after := #[{ on := 8, ground := Ground.guard }], guard := some (8, false) }) (v := ?_) rfl (by kernel_rfl) (by kernel_rfl) (by kernel_rfl) (fun _ _ _ h => h) (Or.inl ⟨by rfl, ?_⟩) (by assumption) ?_
    rotate_left
    · (intro w9 hSw; (try dsimp only at hSw); go_simp; try with_reducible rfl)
    try simp only [Act.put, List.setIfInBounds_toArray, List.set_cons_zero, List.set_cons_succ]
    refine wpAnyH_take (i := 10) (oi := { dst := some 32, op := Op.load 30 (Operand.tmp 4), type := 30, pos := "laws.go:726", after := #[{ on := 8, ground := Ground.guard }], guard := some (8, false) }) (v := ?_) rfl (by kernel_rfl) (by kernel_rfl) (by kernel_rfl) (fun _ _ _ h => h) (Or.inl ⟨by rfl, ?_⟩) (by assumption) ?_
    rotate_left
    · (intro w9 hSw; (try dsimp only at hSw); go_simp; try with_reducible rfl)
    try simp only [Act.put, List.setIfInBounds_toArray, List.set_cons_zero, List.set_cons_succ]
    refine wpAnyH_ready (rs := [11]) (by kernel_rfl) (by simp) ?_
    refine AllReadyH.cons (i := 11) (o := { dst := some 33, op := Op.call { callee := Callee.value (Operand.func 12), args := #[Operand.tmp 31, Operand.tmp 32], argTypes := #[27, 30] }, type := 4, pos := "laws.go:726", after := #[{ on := 9, ground := Ground.data }, { on := 10, ground := Ground.data }, { on := 8, ground := Ground.chain }, { on := 8, ground := Ground.guard }], guard := some (8, false) }) rfl (fun K hK => ?_) AllReadyH.nil
    go_simp
    refine ((unhide KA) _ (fut_trans (unhide HK) (S15.bel hHeld))).mono ?_
    rintro e u9 ⟨rfl, kb⟩
    have hq := S15.call hHeld kb
    clear kb hHeld
    refine hK.out _ _ hq (fun hHeld => ?_)
    clear hK K hq
    try simp only [Act.put, List.setIfInBounds_toArray, List.set_cons_zero, List.set_cons_succ]
    refine wpAnyH_take (i := 12) (oi := { dst := some 34, op := Op.unOp UnOp.not 4 (Operand.tmp 33), type := 4, pos := "laws.go:726", after := #[{ on := 11, ground := Ground.data }, { on := 8, ground := Ground.guard }], guard := some (8, false) }) (v := ?_) rfl (by kernel_rfl) (by kernel_rfl) (by kernel_rfl) (fun _ _ _ h => h) (Or.inl ⟨by rfl, ?_⟩) (by assumption) ?_
    rotate_left
    · (intro w9 hSw; (try dsimp only at hSw); go_simp; try with_reducible rfl)
    try simp only [Act.put, List.setIfInBounds_toArray, List.set_cons_zero, List.set_cons_succ]
    refine wpAnyH_take (i := 13) (oi := { dst := some 35, op := Op.pick (Operand.tmp 30) (Operand.const (Value.bool true)) (Operand.tmp 34), type := 4, pos := "laws.go:726", after := #[{ on := 8, ground := Ground.data }, { on := 12, ground := Ground.data }], guard := none }) (v := ?_) rfl (by kernel_rfl) (by kernel_rfl) (by kernel_rfl) (fun _ _ _ h => h) (Or.inl ⟨by rfl, ?_⟩) (by assumption) ?_
    rotate_left
    · (intro w9 hSw; (try dsimp only at hSw); go_simp; try with_reducible rfl)
    try simp only [Act.put, List.setIfInBounds_toArray, List.set_cons_zero, List.set_cons_succ]
    refine wpAnyH_take (i := 14) (oi := { dst := some 36, op := Op.move (Operand.tmp 35), type := 4, pos := "laws.go:726", after := #[{ on := 13, ground := Ground.data }, { on := 11, ground := Ground.chain }], guard := none }) (v := ?_) rfl (by kernel_rfl) (by kernel_rfl) (by kernel_rfl) (fun _ _ _ h => h) (Or.inl ⟨by rfl, ?_⟩) (by assumption) ?_
    rotate_left
    · (intro w9 hSw; (try dsimp only at hSw); go_simp; try with_reducible rfl)
    try simp only [Act.put, List.setIfInBounds_toArray, List.set_cons_zero, List.set_cons_succ]
    refine wpAnyH_take (i := 15) (oi := { dst := some 37, op := Op.load 27 (Operand.tmp 3), type := 27, pos := "laws.go:726", after := #[{ on := 14, ground := Ground.guard }], guard := some (14, false) }) (v := undef) rfl (by kernel_rfl) (by kernel_rfl) (by kernel_rfl) (fun _ _ _ h => h) (Or.inr ⟨by rfl, rfl⟩) (by assumption) ?_
    try simp only [Act.put, List.setIfInBounds_toArray, List.set_cons_zero, List.set_cons_succ]
    refine wpAnyH_take (i := 16) (oi := { dst := some 38, op := Op.load 30 (Operand.tmp 5), type := 30, pos := "laws.go:726", after := #[{ on := 14, ground := Ground.guard }], guard := some (14, false) }) (v := undef) rfl (by kernel_rfl) (by kernel_rfl) (by kernel_rfl) (fun _ _ _ h => h) (Or.inr ⟨by rfl, rfl⟩) (by assumption) ?_
    try simp only [Act.put, List.setIfInBounds_toArray, List.set_cons_zero, List.set_cons_succ]
    refine wpAnyH_take (i := 17) (oi := { dst := some 39, op := Op.call { callee := Callee.value (Operand.func 12), args := #[Operand.tmp 37, Operand.tmp 38], argTypes := #[27, 30] }, type := 4, pos := "laws.go:726", after := #[{ on := 15, ground := Ground.data }, { on := 16, ground := Ground.data }, { on := 14, ground := Ground.chain }, { on := 14, ground := Ground.guard }], guard := some (14, false) }) (v := undef) rfl (by kernel_rfl) (by kernel_rfl) (by kernel_rfl) (fun _ _ _ h => h) (Or.inr ⟨by rfl, rfl⟩) (by assumption) ?_
    try simp only [Act.put, List.setIfInBounds_toArray, List.set_cons_zero, List.set_cons_succ]
    refine wpAnyH_take (i := 18) (oi := { dst := some 40, op := Op.unOp UnOp.not 4 (Operand.tmp 39), type := 4, pos := "laws.go:726", after := #[{ on := 17, ground := Ground.data }, { on := 14, ground := Ground.guard }], guard := some (14, false) }) (v := undef) rfl (by kernel_rfl) (by kernel_rfl) (by kernel_rfl) (fun _ _ _ h => h) (Or.inr ⟨by rfl, rfl⟩) (by assumption) ?_
    try simp only [Act.put, List.setIfInBounds_toArray, List.set_cons_zero, List.set_cons_succ]
    refine wpAnyH_take (i := 19) (oi := { dst := some 41, op := Op.pick (Operand.tmp 36) (Operand.const (Value.bool true)) (Operand.tmp 40), type := 4, pos := "laws.go:726", after := #[{ on := 14, ground := Ground.data }, { on := 18, ground := Ground.data }], guard := none }) (v := ?_) rfl (by kernel_rfl) (by kernel_rfl) (by kernel_rfl) (fun _ _ _ h => h) (Or.inl ⟨by rfl, ?_⟩) (by assumption) ?_
    rotate_left
    · (intro w9 hSw; (try dsimp only at hSw); go_simp; try with_reducible rfl)
    try simp only [Act.put, List.setIfInBounds_toArray, List.set_cons_zero, List.set_cons_succ]
    refine wpAnyH_take (i := 20) (oi := { dst := some 42, op := Op.move (Operand.tmp 41), type := 4, pos := "laws.go:726", after := #[{ on := 19, ground := Ground.data }, { on := 17, ground := Ground.chain }], guard := none }) (v := ?_) rfl (by kernel_rfl) (by kernel_rfl) (by kernel_rfl) (fun _ _ _ h => h) (Or.inl ⟨by rfl, ?_⟩) (by assumption) ?_
    rotate_left
    · (intro w9 hSw; (try dsimp only at hSw); go_simp; try with_reducible rfl)
    try simp only [Act.put, List.setIfInBounds_toArray, List.set_cons_zero, List.set_cons_succ]
    refine wpAnyH_take (i := 21) (oi := { dst := some 43, op := Op.move (Operand.tmp 6), type := 33, pos := "laws.go:726", after := #[{ on := 20, ground := Ground.guard }], guard := some (20, false) }) (v := undef) rfl (by kernel_rfl) (by kernel_rfl) (by kernel_rfl) (fun _ _ _ h => h) (Or.inr ⟨by rfl, rfl⟩) (by assumption) ?_
    try simp only [Act.put, List.setIfInBounds_toArray, List.set_cons_zero, List.set_cons_succ]
    refine wpAnyH_take (i := 22) (oi := { dst := some 44, op := Op.call { callee := Callee.builtin Builtin.len, args := #[Operand.tmp 43], argTypes := #[33] }, type := 3, pos := "laws.go:726", after := #[{ on := 21, ground := Ground.data }, { on := 20, ground := Ground.guard }], guard := some (20, false) }) (v := undef) rfl (by kernel_rfl) (by kernel_rfl) (by kernel_rfl) (fun _ _ _ h => h) (Or.inr ⟨by rfl, rfl⟩) (by assumption) ?_
    try simp only [Act.put, List.setIfInBounds_toArray, List.set_cons_zero, List.set_cons_succ]
    refine wpAnyH_take (i := 23) (oi := { dst := some 45, op := Op.binOp BinOp.gtr 3 (Operand.tmp 44) (Operand.const (Value.int IntKind.i64 100)) 3, type := 4, pos := "laws.go:726", after := #[{ on := 22, ground := Ground.data }, { on := 20, ground := Ground.guard }], guard := some (20, false) }) (v := undef) rfl (by kernel_rfl) (by kernel_rfl) (by kernel_rfl) (fun _ _ _ h => h) (Or.inr ⟨by rfl, rfl⟩) (by assumption) ?_
    try simp only [Act.put, List.setIfInBounds_toArray, List.set_cons_zero, List.set_cons_succ]
    refine wpAnyH_take (i := 24) (oi := { dst := some 46, op := Op.pick (Operand.tmp 42) (Operand.const (Value.bool true)) (Operand.tmp 45), type := 4, pos := "laws.go:726", after := #[{ on := 20, ground := Ground.data }, { on := 23, ground := Ground.data }], guard := none }) (v := ?_) rfl (by kernel_rfl) (by kernel_rfl) (by kernel_rfl) (fun _ _ _ h => h) (Or.inl ⟨by rfl, ?_⟩) (by assumption) ?_
    rotate_left
    · (intro w9 hSw; (try dsimp only at hSw); go_simp; try with_reducible rfl)
    try simp only [Act.put, List.setIfInBounds_toArray, List.set_cons_zero, List.set_cons_succ]
    refine wpAnyH_done (by kernel_rfl) ?_ _
    have HK2 := hide (fut_trans (unhide HK) (S15.bel hHeld))
    have HJI2 := hide (And.intro ((unhide HJI).1.call (S15.bel hHeld)) ((unhide HJI).2.call (S15.bel hHeld)))
    have HJB2 := hide ((unhide HJB).call (S15.bel hHeld))
    clear hHeld HHS HJI HJB HK
    generalize u9 = ur at HJI2 HJB2 HK2 ⊢
    go_upto_region 6 with fail
    have HJI := HJI2
    have HJB := HJB2
    have HK := HK2
    clear HJI2 HJB2 HK2
    have hs := S15.of ((unhide HBX).1.call (unhide HK)) ((unhide HBX).2.1.call (unhide HK)) ((unhide HBX).2.2.1.call (unhide HK)) (unhide HJB) (unhide HJB) (Below.refl ur.heap.size ur)
    have HHS := hide hs
    clear hs
    have HIA : Hid (∀ w, Below ub.heap.size ub w → Ivs w oa xs ∧ Ivs w ob ys) := fun w k => ⟨((unhide HRW).2.2.2.2.1.call k), ((unhide HRW).2.2.2.2.2.1.call k)⟩
    refine wp_region_held_drew (S := (S15 ur u1.heap.size pj pj (.slice a1 vs.length c1) (.slice a2 fs.length c2) (.slice a3 rs.length c3) (.bool li) (.slice oa xs.length ca) (.slice ob ys.length cb) (.bool lj) (.slice oc xs2.length cc) (.slice od ys2.length cd) (.bool wl) (.slice ox wx.length cx) (.slice oy wy.length cy) (.bool wl) (.slice ox wx.length cx) (.slice oy wy.length cy))) (by kernel_rfl) (S15.drew (unhide HHS)) (fun hHeld => ?_)
    refine wpAnyH_take (i := 0) (oi := { dst := some 47, op := Op.load 30 (Operand.tmp 7), type := 30, pos := "laws.go:727", after := #[], guard := none }) (v := ?_) rfl (by kernel_rfl) (by kernel_rfl) (by kernel_rfl) (fun _ _ _ h => h) (Or.inl ⟨by rfl, ?_⟩) (by assumption) ?_
    rotate_left
    · (intro w9 hSw; (try dsimp only at hSw); go_simp; try with_reducible rfl)
    try simp only [Act.put, List.setIfInBounds_toArray, List.set_cons_zero, List.set_cons_succ]
    refine wpAnyH_take (i := 1) (oi := { dst := some 48, op := Op.load 27 (Operand.tmp 3), type := 27, pos := "laws.go:727", after := #[], guard := none }) (v := ?_) rfl (by kernel_rfl) (by kernel_rfl) (by kernel_rfl) (fun _ _ _ h => h) (Or.inl ⟨by rfl, ?_⟩) (by assumption) ?_
    rotate_left
    · (intro w9 hSw; (try dsimp only at hSw); go_simp; try with_reducible rfl)
    try simp only [Act.put, List.setIfInBounds_toArray, List.set_cons_zero, List.set_cons_succ]
    refine wpAnyH_take (i := 2) (oi := { dst := some 49, op := Op.load 30 (Operand.tmp 4), type := 30, pos := "laws.go:727", after := #[], guard := none }) (v := ?_) rfl (by kernel_rfl) (by kernel_rfl) (by kernel_rfl) (fun _ _ _ h => h) (Or.inl ⟨by rfl, ?_⟩) (by assumption) ?_
    rotate_left
    · (intro w9 hSw; (try dsimp only at hSw); go_simp; try with_reducible rfl)
    try simp only [Act.put, List.setIfInBounds_toArray, List.set_cons_zero, List.set_cons_succ]
    refine wpAnyH_take (i := 3) (oi := { dst := some 50, op := Op.load 30 (Operand.tmp 5), type := 30, pos := "laws.go:727", after := #[], guard := none }) (v := ?_) rfl (by kernel_rfl) (by kernel_rfl) (by kernel_rfl) (fun _ _ _ h => h) (Or.inl ⟨by rfl, ?_⟩) (by assumption) ?_
    rotate_left
    · (intro w9 hSw; (try dsimp only at hSw); go_simp; try with_reducible rfl)
    try simp only [Act.put, List.setIfInBounds_toArray, List.set_cons_zero, List.set_cons_succ]
    refine wpAnyH_take (i := 4) (oi := { dst := some 51, op := Op.move (Operand.tmp 6), type := 33, pos := "laws.go:727", after := #[], guard := none }) (v := ?_) rfl (by kernel_rfl) (by kernel_rfl) (by kernel_rfl) (fun _ _ _ h => h) (Or.inl ⟨by rfl, ?_⟩) (by assumption) ?_
    rotate_left
    · (intro w9 hSw; (try dsimp only at hSw); go_simp; try with_reducible rfl)
    try simp only [Act.put, List.setIfInBounds_toArray, List.set_cons_zero, List.set_cons_succ]
    refine wpAnyH_ready (rs := [5]) (by kernel_rfl) (by simp) ?_
    refine AllReadyH.cons (i := 5) (o := { dst := some 52, op := Op.call { callee := Callee.value (Operand.func 24), args := #[Operand.tmp 48, Operand.tmp 49, Operand.tmp 50, Operand.tmp 51], argTypes := #[27, 30, 30, 33] }, type := 30, pos := "laws.go:727", after := #[{ on := 1, ground := Ground.data }, { on := 2, ground := Ground.data }, { on := 3, ground := Ground.data }, { on := 4, ground := Ground.data }], guard := none }) rfl (fun K hK => ?_) AllReadyH.nil
    go_simp
    refine ((unhide KWS) _ (fut_trans (unhide HK) (S15.bel hHeld))).mono ?_
    rintro e u9 ⟨o1, n1, o2, n2, rfl, hre, kb⟩
    have HI := hide (hre.ivs (unhide LW))
    clear hre
    have hq := S15.call hHeld kb
    clear kb hHeld
    refine hK.out _ _ hq (fun hHeld => ?_)
    clear hK K hq
    try simp only [Act.put, List.setIfInBounds_toArray, List.set_cons_zero, List.set_cons_succ]
    refine wpAnyH_ready (rs := [6]) (by kernel_rfl) (by simp) ?_
    refine AllReadyH.cons (i := 6) (o := { dst := some 53, op := Op.call { callee := Callee.value (Operand.func 17), args := #[Operand.tmp 47, Operand.tmp 52], argTypes := #[30, 30] }, type := 4, pos := "laws.go:727", after := #[{ on := 0, ground := Ground.data }, { on := 5, ground := Ground.data }, { on := 5, ground := Ground.chain }], guard := none }) rfl (fun K hK => ?_) AllReadyH.nil
    go_simp
    refine (same_again (And.intro ((unhide HJI).1.call (S15.bel hHeld)) ((unhide HJI).2.call (S15.bel hHeld))) (unhide HI)).mono ?_
    rintro e u9 ⟨rfl, kb⟩
    clear HI
    have hq := S15.call hHeld kb
    clear kb hHeld
    refine hK.out _ _ hq (fun hHeld => ?_)
    clear hK K hq
    try simp only [Act.put, List.setIfInBounds_toArray, List.set_cons_zero, List.set_cons_succ]
    refine wpAnyH_take (i := 7) (oi := { dst := some 2, op := Op.assign (Operand.tmp 53), type := 4, pos := "laws.go:727", after := #[{ on := 6, ground := Ground.data }, { on := 6, ground := Ground.chain }, { on := 0, ground := Ground.phase }, { on := 1, ground := Ground.phase }, { on := 2, ground := Ground.phase }, { on := 3, ground := Ground.phase }, { on := 4, ground := Ground.phase }, { on := 5, ground := Ground.phase }, { on := 6, ground := Ground.phase }], guard := none }) (v := ?_) rfl (by kernel_rfl) (by kernel_rfl) (by kernel_rfl) (fun _ _ _ h => h) (Or.inl ⟨by rfl, ?_⟩) (by assumption) ?_
    rotate_left
    · (intro w9 hSw; (try dsimp only at hSw); go_simp; try with_reducible rfl)
    try simp only [Act.put, List.setIfInBounds_toArray, List.set_cons_zero, List.set_cons_succ]
    refine wpAnyH_done (by kernel_rfl) ?_ _
    have HB := hide ((unhide HB).trans ((fut_trans (unhide HK) (S15.bel hHeld)).mono (unhide HB).size))
    clear hHeld
    go_wp2
    go_ret
    exact ⟨rfl, unhide HB⟩
  cases B
  · skip
    have hs := S15.of ((unhide HBX).1.call (unhide HK)) ((unhide HBX).2.1.call (unhide HK)) ((unhide HBX).2.2.1.call (unhide HK)) (unhide HJB) (unhide HJB) (Below.refl u4.heap.size u4)
    have HHS := hide hs
    clear hs
    refine wp_region_held_drew (S := (S15 u4 u1.heap.size pj pj (.slice a1 vs.length c1) (.slice a2 fs.length c2) (.slice a3 rs.length c3) (.bool li) (.slice oa xs.length ca) (.slice ob ys.length cb) (.bool lj) (.slice oc xs2.length cc) (.slice od ys2.length cd) (.bool wl) (.slice ox wx.length cx) (.slice oy wy.length cy) (.bool wl) (.slice ox wx.length cx) (.slice oy wy.length cy))) (by kernel_rfl) (S15.drew (unhide HHS)) (fun hHeld => ?_)
    refine wpAnyH_take (i := 0) (oi := { dst := some 22, op := Op.load 30 (Operand.tmp 7), type := 30, pos := "laws.go:726", after := #[], guard := none }) (v := ?_) rfl (by kernel_rfl) (by kernel_rfl) (by kernel_rfl) (fun _ _ _ h => h) (Or.inl ⟨by rfl, ?_⟩) (by assumption) ?_
    rotate_left
    · (intro w9 hSw; (try dsimp only at hSw); go_simp; try with_reducible rfl)
    try simp only [Act.put, List.setIfInBounds_toArray, List.set_cons_zero, List.set_cons_succ]
    refine wpAnyH_take (i := 1) (oi := { dst := some 23, op := Op.load 27 (Operand.tmp 3), type := 27, pos := "laws.go:726", after := #[], guard := none }) (v := ?_) rfl (by kernel_rfl) (by kernel_rfl) (by kernel_rfl) (fun _ _ _ h => h) (Or.inl ⟨by rfl, ?_⟩) (by assumption) ?_
    rotate_left
    · (intro w9 hSw; (try dsimp only at hSw); go_simp; try with_reducible rfl)
    try simp only [Act.put, List.setIfInBounds_toArray, List.set_cons_zero, List.set_cons_succ]
    refine wpAnyH_take (i := 2) (oi := { dst := some 24, op := Op.load 30 (Operand.tmp 4), type := 30, pos := "laws.go:726", after := #[], guard := none }) (v := ?_) rfl (by kernel_rfl) (by kernel_rfl) (by kernel_rfl) (fun _ _ _ h => h) (Or.inl ⟨by rfl, ?_⟩) (by assumption) ?_
    rotate_left
    · (intro w9 hSw; (try dsimp only at hSw); go_simp; try with_reducible rfl)
    try simp only [Act.put, List.setIfInBounds_toArray, List.set_cons_zero, List.set_cons_succ]
    refine wpAnyH_take (i := 3) (oi := { dst := some 25, op := Op.load 30 (Operand.tmp 5), type := 30, pos := "laws.go:726", after := #[], guard := none }) (v := ?_) rfl (by kernel_rfl) (by kernel_rfl) (by kernel_rfl) (fun _ _ _ h => h) (Or.inl ⟨by rfl, ?_⟩) (by assumption) ?_
    rotate_left
    · (intro w9 hSw; (try dsimp only at hSw); go_simp; try with_reducible rfl)
    try simp only [Act.put, List.setIfInBounds_toArray, List.set_cons_zero, List.set_cons_succ]
    refine wpAnyH_take (i := 4) (oi := { dst := some 26, op := Op.move (Operand.tmp 6), type := 33, pos := "laws.go:726", after := #[], guard := none }) (v := ?_) rfl (by kernel_rfl) (by kernel_rfl) (by kernel_rfl) (fun _ _ _ h => h) (Or.inl ⟨by rfl, ?_⟩) (by assumption) ?_
    rotate_left
    · (intro w9 hSw; (try dsimp only at hSw); go_simp; try with_reducible rfl)
    try simp only [Act.put, List.setIfInBounds_toArray, List.set_cons_zero, List.set_cons_succ]
    refine wpAnyH_ready (rs := [5]) (by kernel_rfl) (by simp) ?_
    refine AllReadyH.cons (i := 5) (o := { dst := some 27, op := Op.call { callee := Callee.value (Operand.func 24), args := #[Operand.tmp 23, Operand.tmp 24, Operand.tmp 25, Operand.tmp 26], argTypes := #[27, 30, 30, 33] }, type := 30, pos := "laws.go:726", after := #[{ on := 1, ground := Ground.data }, { on := 2, ground := Ground.data }, { on := 3, ground := Ground.data }, { on := 4, ground := Ground.data }], guard := none }) rfl (fun K hK => ?_) AllReadyH.nil
    go_simp
    refine ((unhide KWS) _ (fut_trans (unhide HK) (S15.bel hHeld))).mono ?_
    rintro e u9 ⟨o1, n1, o2, n2, rfl, hre, kb⟩
    have HI := hide (hre.ivs (unhide LW))
    clear hre
    have hq := S15.call hHeld kb
    clear kb hHeld
    refine hK.out _ _ hq (fun hHeld => ?_)
    clear hK K hq
    try simp only [Act.put, List.setIfInBounds_toArray, List.set_cons_zero, List.set_cons_succ]
    refine wpAnyH_ready (rs := [6]) (by kernel_rfl) (by simp) ?_
    refine AllReadyH.cons (i := 6) (o := { dst := some 28, op := Op.call { callee := Callee.value (Operand.func 17), args := #[Operand.tmp 22, Operand.tmp 27], argTypes := #[30, 30] }, type := 4, pos := "laws.go:726", after := #[{ on := 0, ground := Ground.data }, { on := 5, ground := Ground.data }, { on := 5, ground := Ground.chain }], guard := none }) rfl (fun K hK => ?_) AllReadyH.nil
    go_simp
    refine (same_again (And.intro ((unhide HJI).1.call (S15.bel hHeld)) ((unhide HJI).2.call (S15.bel hHeld))) (unhide HI)).mono ?_
    rintro e u9 ⟨rfl, kb⟩
    clear HI
    have hq := S15.call hHeld kb
    clear kb hHeld
    refine hK.out _ _ hq (fun hHeld => ?_)
    clear hK K hq
    try simp only [Act.put, List.setIfInBounds_toArray, List.set_cons_zero, List.set_cons_succ]
    refine wpAnyH_take (i := 7) (oi := { dst := some 29, op := Op.unOp UnOp.not 4 (Operand.tmp 28), type := 4, pos := "laws.go:726", after := #[{ on := 6, ground := Ground.data }], guard := none }) (v := ?_) rfl (by kernel_rfl) (by kernel_rfl) (by kernel_rfl) (fun _ _ _ h => h) (Or.inl ⟨by rfl, ?_⟩) (by assumption) ?_
    rotate_left
    · (intro w9 hSw; (try dsimp only at hSw); go_simp; try with_reducible rfl)
    try simp only [Act.put, List.setIfInBounds_toArray, List.set_cons_zero, List.set_cons_succ]
    refine wpAnyH_take (i := 8) (oi := { dst := some 30, op := Op.move (Operand.tmp 29), type := 4, pos := "laws.go:726", after := #[{ on := 7, ground := Ground.data }, { on := 6, ground := Ground.chain }], guard := none }) (v := ?_) rfl (by kernel_rfl) (by kernel_rfl) (by kernel_rfl) (fun _ _ _ h => h) (Or.inl ⟨by rfl, ?_⟩) (by assumption) ?_
    rotate_left
    · (intro w9 hSw; (try dsimp only at hSw); go_simp; try with_reducible rfl)
    try simp only [Act.put, List.setIfInBounds_toArray, List.set_cons_zero, List.set_cons_succ]
    refine wpAnyH_take (i := 9) (oi := { dst := some 31, op := Op.load 27 (Operand.tmp 3), type := 27, pos := "laws.go:726", after := #[{ on := 8, ground := Ground.guard }], guard := some (8, false) }) (v := ?_) rfl (by kernel_rfl) (by kernel_rfl) (by kernel_rfl) (fun _ _ _ h => h) (Or.inl ⟨by rfl, ?_⟩) (by assumption) ?_
    rotate_left
    · (intro w9 hSw; (try dsimp only at hSw); go_simp; try with_reducible rfl)
    try simp only [Act.put, List.setIfInBounds_toArray, List.set_cons_zero, List.set_cons_succ]
    refine wpAnyH_take (i := 10) (oi := { dst := some 32, op := Op.load 30 (Operand.tmp 4), type := 30, pos := "laws.go:726", after := #[{ on := 8, ground := Ground.guard }], guard := some (8, false) }) (v := ?_) rfl (by kernel_rfl) (by kernel_rfl) (by kernel_rfl) (fun _ _ _ h => h) (Or.inl ⟨by rfl, ?_⟩) (by assumption) ?_
    rotate_left
    · (intro w9 hSw; (try dsimp only at hSw); go_simp; try with_reducible rfl)
    try simp only [Act.put, List.setIfInBounds_toArray, List.set_cons_zero, List.set_cons_succ]
    refine wpAnyH_ready (rs := [11]) (by kernel_rfl) (by simp) ?_
    refine AllReadyH.cons (i := 11) (o := { dst := some 33, op := Op.call { callee := Callee.value (Operand.func 12), args := #[Operand.tmp 31, Operand.tmp 32], argTypes := #[27, 30] }, type := 4, pos := "laws.go:726", after := #[{ on := 9, ground := Ground.data }, { on := 10, ground := Ground.data }, { on := 8, ground := Ground.chain }, { on := 8, ground := Ground.guard }], guard := some (8, false) }) rfl (fun K hK => ?_) AllReadyH.nil
    go_simp
    refine ((unhide KA) _ (fut_trans (unhide HK) (S15.bel hHeld))).mono ?_
    rintro e u9 ⟨rfl, kb⟩
    have hq := S15.call hHeld kb
    clear kb hHeld
    refine hK.out _ _ hq (fun hHeld => ?_)
    clear hK K hq
    try simp only [Act.put, List.setIfInBounds_toArray, List.set_cons_zero, List.set_cons_succ]
    refine wpAnyH_take (i := 12) (oi := { dst := some 34, op := Op.unOp UnOp.not 4 (Operand.tmp 33), type := 4, pos := "laws.go:726", after := #[{ on := 11, ground := Ground.data }, { on := 8, ground := Ground.guard }], guard := some (8, false) }) (v := ?_) rfl (by kernel_rfl) (by kernel_rfl) (by kernel_rfl) (fun _ _ _ h => h) (Or.inl ⟨by rfl, ?_⟩) (by assumption) ?_
    rotate_left
    · (intro w9 hSw; (try dsimp only at hSw); go_simp; try with_reducible rfl)
    try simp only [Act.put, List.setIfInBounds_toArray, List.set_cons_zero, List.set_cons_succ]
    refine wpAnyH_take (i := 13) (oi := { dst := some 35, op := Op.pick (Operand.tmp 30) (Operand.const (Value.bool true)) (Operand.tmp 34), type := 4, pos := "laws.go:726", after := #[{ on := 8, ground := Ground.data }, { on := 12, ground := Ground.data }], guard := none }) (v := ?_) rfl (by kernel_rfl) (by kernel_rfl) (by kernel_rfl) (fun _ _ _ h => h) (Or.inl ⟨by rfl, ?_⟩) (by assumption) ?_
    rotate_left
    · (intro w9 hSw; (try dsimp only at hSw); go_simp; try with_reducible rfl)
    try simp only [Act.put, List.setIfInBounds_toArray, List.set_cons_zero, List.set_cons_succ]
    refine wpAnyH_take (i := 14) (oi := { dst := some 36, op := Op.move (Operand.tmp 35), type := 4, pos := "laws.go:726", after := #[{ on := 13, ground := Ground.data }, { on := 11, ground := Ground.chain }], guard := none }) (v := ?_) rfl (by kernel_rfl) (by kernel_rfl) (by kernel_rfl) (fun _ _ _ h => h) (Or.inl ⟨by rfl, ?_⟩) (by assumption) ?_
    rotate_left
    · (intro w9 hSw; (try dsimp only at hSw); go_simp; try with_reducible rfl)
    try simp only [Act.put, List.setIfInBounds_toArray, List.set_cons_zero, List.set_cons_succ]
    refine wpAnyH_take (i := 15) (oi := { dst := some 37, op := Op.load 27 (Operand.tmp 3), type := 27, pos := "laws.go:726", after := #[{ on := 14, ground := Ground.guard }], guard := some (14, false) }) (v := ?_) rfl (by kernel_rfl) (by kernel_rfl) (by kernel_rfl) (fun _ _ _ h => h) (Or.inl ⟨by rfl, ?_⟩) (by assumption) ?_
    rotate_left
    · (intro w9 hSw; (try dsimp only at hSw); go_simp; try with_reducible rfl)
    try simp only [Act.put, List.setIfInBounds_toArray, List.set_cons_zero, List.set_cons_succ]
    refine wpAnyH_take (i := 16) (oi := { dst := some 38, op := Op.load 30 (Operand.tmp 5), type := 30, pos := "laws.go:726", after := #[{ on := 14, ground := Ground.guard }], guard := some (14, false) }) (v := ?_) rfl (by kernel_rfl) (by kernel_rfl) (by kernel_rfl) (fun _ _ _ h => h) (Or.inl ⟨by rfl, ?_⟩) (by assumption) ?_
    rotate_left
    · (intro w9 hSw; (try dsimp only at hSw); go_simp; try with_reducible rfl)
    try simp only [Act.put, List.setIfInBounds_toArray, List.set_cons_zero, List.set_cons_succ]
    refine wpAnyH_ready (rs := [17]) (by kernel_rfl) (by simp) ?_
    refine AllReadyH.cons (i := 17) (o := { dst := some 39, op := Op.call { callee := Callee.value (Operand.func 12), args := #[Operand.tmp 37, Operand.tmp 38], argTypes := #[27, 30] }, type := 4, pos := "laws.go:726", after := #[{ on := 15, ground := Ground.data }, { on := 16, ground := Ground.data }, { on := 14, ground := Ground.chain }, { on := 14, ground := Ground.guard }], guard := some (14, false) }) rfl (fun K hK => ?_) AllReadyH.nil
    go_simp
    refine ((unhide KB) _ (fut_trans (unhide HK) (S15.bel hHeld))).mono ?_
    rintro e u9 ⟨rfl, kb⟩
    have hq := S15.call hHeld kb
    clear kb hHeld
    refine hK.out _ _ hq (fun hHeld => ?_)
    clear hK K hq
    try simp only [Act.put, List.setIfInBounds_toArray, List.set_cons_zero, List.set_cons_succ]
    refine wpAnyH_take (i := 18) (oi := { dst := some 40, op := Op.unOp UnOp.not 4 (Operand.tmp 39), type := 4, pos := "laws.go:726", after := #[{ on := 17, ground := Ground.data }, { on := 14, ground := Ground.guard }], guard := some (14, false) }) (v := ?_) rfl (by kernel_rfl) (by kernel_rfl) (by kernel_rfl) (fun _ _ _ h => h) (Or.inl ⟨by rfl, ?_⟩) (by assumption) ?_
    rotate_left
    · (intro w9 hSw; (try dsimp only at hSw); go_simp; try with_reducible rfl)
    try simp only [Act.put, List.setIfInBounds_toArray, List.set_cons_zero, List.set_cons_succ]
    refine wpAnyH_take (i := 19) (oi := { dst := some 41, op := Op.pick (Operand.tmp 36) (Operand.const (Value.bool true)) (Operand.tmp 40), type := 4, pos := "laws.go:726", after := #[{ on := 14, ground := Ground.data }, { on := 18, ground := Ground.data }], guard := none }) (v := ?_) rfl (by kernel_rfl) (by kernel_rfl) (by kernel_rfl) (fun _ _ _ h => h) (Or.inl ⟨by rfl, ?_⟩) (by assumption) ?_
    rotate_left
    · (intro w9 hSw; (try dsimp only at hSw); go_simp; try with_reducible rfl)
    try simp only [Act.put, List.setIfInBounds_toArray, List.set_cons_zero, List.set_cons_succ]
    refine wpAnyH_take (i := 20) (oi := { dst := some 42, op := Op.move (Operand.tmp 41), type := 4, pos := "laws.go:726", after := #[{ on := 19, ground := Ground.data }, { on := 17, ground := Ground.chain }], guard := none }) (v := ?_) rfl (by kernel_rfl) (by kernel_rfl) (by kernel_rfl) (fun _ _ _ h => h) (Or.inl ⟨by rfl, ?_⟩) (by assumption) ?_
    rotate_left
    · (intro w9 hSw; (try dsimp only at hSw); go_simp; try with_reducible rfl)
    try simp only [Act.put, List.setIfInBounds_toArray, List.set_cons_zero, List.set_cons_succ]
    refine wpAnyH_take (i := 21) (oi := { dst := some 43, op := Op.move (Operand.tmp 6), type := 33, pos := "laws.go:726", after := #[{ on := 20, ground := Ground.guard }], guard := some (20, false) }) (v := undef) rfl (by kernel_rfl) (by kernel_rfl) (by kernel_rfl) (fun _ _ _ h => h) (Or.inr ⟨by rfl, rfl⟩) (by assumption) ?_
    try simp only [Act.put, List.setIfInBounds_toArray, List.set_cons_zero, List.set_cons_succ]
    refine wpAnyH_take (i := 22) (oi := { dst := some 44, op := Op.call { callee := Callee.builtin Builtin.len, args := #[Operand.tmp 43], argTypes := #[33] }, type := 3, pos := "laws.go:726", after := #[{ on := 21, ground := Ground.data }, { on := 20, ground := Ground.guard }], guard := some (20, false) }) (v := undef) rfl (by kernel_rfl) (by kernel_rfl) (by kernel_rfl) (fun _ _ _ h => h) (Or.inr ⟨by rfl, rfl⟩) (by assumption) ?_
    try simp only [Act.put, List.setIfInBounds_toArray, List.set_cons_zero, List.set_cons_succ]
    refine wpAnyH_take (i := 23) (oi := { dst := some 45, op := Op.binOp BinOp.gtr 3 (Operand.tmp 44) (Operand.const (Value.int IntKind.i64 100)) 3, type := 4, pos := "laws.go:726", after := #[{ on := 22, ground := Ground.data }, { on := 20, ground := Ground.guard }], guard := some (20, false) }) (v := undef) rfl (by kernel_rfl) (by kernel_rfl) (by kernel_rfl) (fun _ _ _ h => h) (Or.inr ⟨by rfl, rfl⟩) (by assumption) ?_
    try simp only [Act.put, List.setIfInBounds_toArray, List.set_cons_zero, List.set_cons_succ]
    refine wpAnyH_take (i := 24) (oi := { dst := some 46, op := Op.pick (Operand.tmp 42) (Operand.const (Value.bool true)) (Operand.tmp 45), type := 4, pos := "laws.go:726", after := #[{ on := 20, ground := Ground.data }, { on := 23, ground := Ground.data }], guard := none }) (v := ?_) rfl (by kernel_rfl) (by kernel_rfl) (by kernel_rfl) (fun _ _ _ h => h) (Or.inl ⟨by rfl, ?_⟩) (by assumption) ?_
    rotate_left
    · (intro w9 hSw; (try dsimp only at hSw); go_simp; try with_reducible rfl)
    try simp only [Act.put, List.setIfInBounds_toArray, List.set_cons_zero, List.set_cons_succ]
    refine wpAnyH_done (by kernel_rfl) ?_ _
    have HK2 := hide (fut_trans (unhide HK) (S15.bel hHeld))
    have HJI2 := hide (And.intro ((unhide HJI).1.call (S15.bel hHeld)) ((unhide HJI).2.call (S15.bel hHeld)))
    have HJB2 := hide ((unhide HJB).call (S15.bel hHeld))
    clear hHeld HHS HJI HJB HK
    generalize u9 = ur at HJI2 HJB2 HK2 ⊢
    go_upto_region 6 with fail
    have HJI := HJI2
    have HJB := HJB2
    have HK := HK2
    clear HJI2 HJB2 HK2
    have hs := S15.of ((unhide HBX).1.call (unhide HK)) ((unhide HBX).2.1.call (unhide HK)) ((unhide HBX).2.2.1.call (unhide HK)) (unhide HJB) (unhide HJB) (Below.refl ur.heap.size ur)
    have HHS := hide hs
    clear hs
    have HIA : Hid (∀ w, Below ub.heap.size ub w → Ivs w oa xs ∧ Ivs w ob ys) := fun w k => ⟨((unhide HRW).2.2.2.2.1.call k), ((unhide HRW).2.2.2.2.2.1.call k)⟩
    refine wp_region_held_drew (S := (S15 ur u1.heap.size pj pj (.slice a1 vs.length c1) (.slice a2 fs.length c2) (.slice a3 rs.length c3) (.bool li) (.slice oa xs.length ca) (.slice ob ys.length cb) (.bool lj) (.slice oc xs2.length cc) (.slice od ys2.length cd) (.bool wl) (.slice ox wx.length cx) (.slice oy wy.length cy) (.bool wl) (.slice ox wx.length cx) (.slice oy wy.length cy))) (by kernel_rfl) (S15.drew (unhide HHS)) (fun hHeld => ?_)
    refine wpAnyH_take (i := 0) (oi := { dst := some 47, op := Op.load 30 (Operand.tmp 7), type := 30, pos := "laws.go:727", after := #[], guard := none }) (v := ?_) rfl (by kernel_rfl) (by kernel_rfl) (by kernel_rfl) (fun _ _ _ h => h) (Or.inl ⟨by rfl, ?_⟩) (by assumption) ?_
    rotate_left
    · (intro w9 hSw; (try dsimp only at hSw); go_simp; try with_reducible rfl)
    try simp only [Act.put, List.setIfInBounds_toArray, List.set_cons_zero, List.set_cons_succ]
    refine wpAnyH_take (i := 1) (oi := { dst := some 48, op := Op.load 27 (Operand.tmp 3), type := 27, pos := "laws.go:727", after := #[], guard := none }) (v := ?_) rfl (by kernel_rfl) (by kernel_rfl) (by kernel_rfl) (fun _ _ _ h => h) (Or.inl ⟨by rfl, ?_⟩) (by assumption) ?_
    rotate_left
    · (intro w9 hSw; (try dsimp only at hSw); go_simp; try with_reducible rfl)
    try simp only [Act.put, List.setIfInBounds_toArray, List.set_cons_zero, List.set_cons_succ]
    refine wpAnyH_take (i := 2) (oi := { dst := some 49, op := Op.load 30 (Operand.tmp 4), type := 30, pos := "laws.go:727", after := #[], guard := none }) (v := ?_) rfl (by kernel_rfl) (by kernel_rfl) (by kernel_rfl) (fun _ _ _ h => h) (Or.inl ⟨by rfl, ?_⟩) (by assumption) ?_
    rotate_left
    · (intro w9 hSw; (try dsimp only at hSw); go_simp; try with_reducible rfl)
    try simp only [Act.put, List.setIfInBounds_toArray, List.set_cons_zero, List.set_cons_succ]
    refine wpAnyH_take (i := 3) (oi := { dst := some 50, op := Op.load 30 (Operand.tmp 5), type := 30, pos := "laws.go:727", after := #[], guard := none }) (v := ?_) rfl (by kernel_rfl) (by kernel_rfl) (by kernel_rfl) (fun _ _ _ h => h) (Or.inl ⟨by rfl, ?_⟩) (by assumption) ?_
    rotate_left
    · (intro w9 hSw; (try dsimp only at hSw); go_simp; try with_reducible rfl)
    try simp only [Act.put, List.setIfInBounds_toArray, List.set_cons_zero, List.set_cons_succ]
    refine wpAnyH_take (i := 4) (oi := { dst := some 51, op := Op.move (Operand.tmp 6), type := 33, pos := "laws.go:727", after := #[], guard := none }) (v := ?_) rfl (by kernel_rfl) (by kernel_rfl) (by kernel_rfl) (fun _ _ _ h => h) (Or.inl ⟨by rfl, ?_⟩) (by assumption) ?_
    rotate_left
    · (intro w9 hSw; (try dsimp only at hSw); go_simp; try with_reducible rfl)
    try simp only [Act.put, List.setIfInBounds_toArray, List.set_cons_zero, List.set_cons_succ]
    refine wpAnyH_ready (rs := [5]) (by kernel_rfl) (by simp) ?_
    refine AllReadyH.cons (i := 5) (o := { dst := some 52, op := Op.call { callee := Callee.value (Operand.func 24), args := #[Operand.tmp 48, Operand.tmp 49, Operand.tmp 50, Operand.tmp 51], argTypes := #[27, 30, 30, 33] }, type := 30, pos := "laws.go:727", after := #[{ on := 1, ground := Ground.data }, { on := 2, ground := Ground.data }, { on := 3, ground := Ground.data }, { on := 4, ground := Ground.data }], guard := none }) rfl (fun K hK => ?_) AllReadyH.nil
    go_simp
    refine ((unhide KWS) _ (fut_trans (unhide HK) (S15.bel hHeld))).mono ?_
    rintro e u9 ⟨o1, n1, o2, n2, rfl, hre, kb⟩
    have HI := hide (hre.ivs (unhide LW))
    clear hre
    have hq := S15.call hHeld kb
    clear kb hHeld
    refine hK.out _ _ hq (fun hHeld => ?_)
    clear hK K hq
    try simp only [Act.put, List.setIfInBounds_toArray, List.set_cons_zero, List.set_cons_succ]
    refine wpAnyH_ready (rs := [6]) (by kernel_rfl) (by simp) ?_
    refine AllReadyH.cons (i := 6) (o := { dst := some 53, op := Op.call { callee := Callee.value (Operand.func 17), args := #[Operand.tmp 47, Operand.tmp 52], argTypes := #[30, 30] }, type := 4, pos := "laws.go:727", after := #[{ on := 0, ground := Ground.data }, { on := 5, ground := Ground.data }, { on := 5, ground := Ground.chain }], guard := none }) rfl (fun K hK => ?_) AllReadyH.nil
    go_simp
    refine (same_again (And.intro ((unhide HJI).1.call (S15.bel hHeld)) ((unhide HJI).2.call (S15.bel hHeld))) (unhide HI)).mono ?_
    rintro e u9 ⟨rfl, kb⟩
    clear HI
    have hq := S15.call hHeld kb
    clear kb hHeld
    refine hK.out _ _ hq (fun hHeld => ?_)
    clear hK K hq
    try simp only [Act.put, List.setIfInBounds_toArray, List.set_cons_zero, List.set_cons_succ]
    refine wpAnyH_take (i := 7) (oi := { dst := some 2, op := Op.assign (Operand.tmp 53), type := 4, pos := "laws.go:727", after := #[{ on := 6, ground := Ground.data }, { on := 6, ground := Ground.chain }, { on := 0, ground := Ground.phase }, { on := 1, ground := Ground.phase }, { on := 2, ground := Ground.phase }, { on := 3, ground := Ground.phase }, { on := 4, ground := Ground.phase }, { on := 5, ground := Ground.phase }, { on := 6, ground := Ground.phase }], guard := none }) (v := ?_) rfl (by kernel_rfl) (by kernel_rfl) (by kernel_rfl) (fun _ _ _ h => h) (Or.inl ⟨by rfl, ?_⟩) (by assumption) ?_
    rotate_left
    · (intro w9 hSw; (try dsimp only at hSw); go_simp; try with_reducible rfl)
    try simp only [Act.put, List.setIfInBounds_toArray, List.set_cons_zero, List.set_cons_succ]
    refine wpAnyH_done (by kernel_rfl) ?_ _
    have HB := hide ((unhide HB).trans ((fut_trans (unhide HK) (S15.bel hHeld)).mono (unhide HB).size))
    clear hHeld
    go_wp2
    go_ret
    exact ⟨rfl, unhide HB⟩
  by_cases hst2 : st.length ≤ 100
  · have hcmp : decide ((100 : Int) < (st.length : Int)) = false := decide_eq_false (by omega)
    have hcmp2 : ¬ (100 : Int) < (st.length : Int) := by omega
    have hs := S15.of ((unhide HBX).1.call (unhide HK)) ((unhide HBX).2.1.call (unhide HK)) ((unhide HBX).2.2.1.call (unhide HK)) (unhide HJB) (unhide HJB) (Below.refl u4.heap.size u4)
    have HHS := hide hs
    clear hs
    refine wp_region_held_drew (S := (S15 u4 u1.heap.size pj pj (.slice a1 vs.length c1) (.slice a2 fs.length c2) (.slice a3 rs.length c3) (.bool li) (.slice oa xs.length ca) (.slice ob ys.length cb) (.bool lj) (.slice oc xs2.length cc) (.slice od ys2.length cd) (.bool wl) (.slice ox wx.length cx) (.slice oy wy.length cy) (.bool wl) (.slice ox wx.length cx) (.slice oy wy.length cy))) (by kernel_rfl) (S15.drew (unhide HHS)) (fun hHeld => ?_)
    refine wpAnyH_take (i := 0) (oi := { dst := some 22, op := Op.load 30 (Operand.tmp 7), type := 30, pos := "laws.go:726", after := #[], guard := none }) (v := ?_) rfl (by kernel_rfl) (by kernel_rfl) (by kernel_rfl) (fun _ _ _ h => h) (Or.inl ⟨by rfl, ?_⟩) (by assumption) ?_
    rotate_left
    · (intro w9 hSw; (try dsimp only at hSw); go_simp; try with_reducible rfl)
    try simp only [Act.put, List.setIfInBounds_toArray, List.set_cons_zero, List.set_cons_succ]
    refine wpAnyH_take (i := 1) (oi := { dst := some 23, op := Op.load 27 (Operand.tmp 3), type := 27, pos := "laws.go:726", after := #[], guard := none }) (v := ?_) rfl (by kernel_rfl) (by kernel_rfl) (by kernel_rfl) (fun _ _ _ h => h) (Or.inl ⟨by rfl, ?_⟩) (by assumption) ?_
    rotate_left
    · (intro w9 hSw; (try dsimp only at hSw); go_simp; try with_reducible rfl)
    try simp only [Act.put, List.setIfInBounds_toArray, List.set_cons_zero, List.set_cons_succ]
    refine wpAnyH_take (i := 2) (oi := { dst := some 24, op := Op.load 30 (Operand.tmp 4), type := 30, pos := "laws.go:726", after := #[], guard := none }) (v := ?_) rfl (by kernel_rfl) (by kernel_rfl) (by kernel_rfl) (fun _ _ _ h => h) (Or.inl ⟨by rfl, ?_⟩) (by assumption) ?_
    rotate_left
    · (intro w9 hSw; (try dsimp only at hSw); go_simp; try with_reducible rfl)
    try simp only [Act.put, List.setIfInBounds_toArray, List.set_cons_zero, List.set_cons_succ]
    refine wpAnyH_take (i := 3) (oi := { dst := some 25, op := Op.load 30 (Operand.tmp 5), type := 30, pos := "laws.go:726", after := #[], guard := none }) (v := ?_) rfl (by kernel_rfl) (by kernel_rfl) (by kernel_rfl) (fun _ _ _ h => h) (Or.inl ⟨by rfl, ?_⟩) (by assumption) ?_
    rotate_left
    · (intro w9 hSw; (try dsimp only at hSw); go_simp; try with_reducible rfl)
    try simp only [Act.put, List.setIfInBounds_toArray, List.set_cons_zero, List.set_cons_succ]
    refine wpAnyH_take (i := 4) (oi := { dst := some 26, op := Op.move (Operand.tmp 6), type := 33, pos := "laws.go:726", after := #[], guard := none }) (v := ?_) rfl (by kernel_rfl) (by kernel_rfl) (by kernel_rfl) (fun _ _ _ h => h) (Or.inl ⟨by rfl, ?_⟩) (by assumption) ?_
    rotate_left
    · (intro w9 hSw; (try dsimp only at hSw); go_simp; try with_reducible rfl)
    try simp only [Act.put, List.setIfInBounds_toArray, List.set_cons_zero, List.set_cons_succ]
    refine wpAnyH_ready (rs := [5]) (by kernel_rfl) (by simp) ?_
    refine AllReadyH.cons (i := 5) (o := { dst := some 27, op := Op.call { callee := Callee.value (Operand.func 24), args := #[Operand.tmp 23, Operand.tmp 24, Operand.tmp 25, Operand.tmp 26], argTypes := #[27, 30, 30, 33] }, type := 30, pos := "laws.go:726", after := #[{ on := 1, ground := Ground.data }, { on := 2, ground := Ground.data }, { on := 3, ground := Ground.data }, { on := 4, ground := Ground.data }], guard := none }) rfl (fun K hK => ?_) AllReadyH.nil
    go_simp
    refine ((unhide KWS) _ (fut_trans (unhide HK) (S15.bel hHeld))).mono ?_
    rintro e u9 ⟨o1, n1, o2, n2, rfl, hre, kb⟩
    have HI := hide (hre.ivs (unhide LW))
    clear hre
    have hq := S15.call hHeld kb
    clear kb hHeld
    refine hK.out _ _ hq (fun hHeld => ?_)
    clear hK K hq
    try simp only [Act.put, List.setIfInBounds_toArray, List.set_cons_zero, List.set_cons_succ]
    refine wpAnyH_ready (rs := [6]) (by kernel_rfl) (by simp) ?_
    refine AllReadyH.cons (i := 6) (o := { dst := some 28, op := Op.call { callee := Callee.value (Operand.func 17), args := #[Operand.tmp 22, Operand.tmp 27], argTypes := #[30, 30] }, type := 4, pos := "laws.go:726", after := #[{ on := 0, ground := Ground.data }, { on := 5, ground := Ground.data }, { on := 5, ground := Ground.chain }], guard := none }) rfl (fun K hK => ?_) AllReadyH.nil
    go_simp
    refine (same_again (And.intro ((unhide HJI).1.call (S15.bel hHeld)) ((unhide HJI).2.call (S15.bel hHeld))) (unhide HI)).mono ?_
    rintro e u9 ⟨rfl, kb⟩
    clear HI
    have hq := S15.call hHeld kb
    clear kb hHeld
    refine hK.out _ _ hq (fun hHeld => ?_)
    clear hK K hq
    try simp only [Act.put, List.setIfInBounds_toArray, List.set_cons_zero, List.set_cons_succ]
    refine wpAnyH_take (i := 7) (oi := { dst := some 29, op := Op.unOp UnOp.not 4 (Operand.tmp 28), type := 4, pos := "laws.go:726", after := #[{ on := 6, ground := Ground.data }], guard := none }) (v := ?_) rfl (by kernel_rfl) (by kernel_rfl) (by kernel_rfl) (fun _ _ _ h => h) (Or.inl ⟨by rfl, ?_⟩) (by assumption) ?_
    rotate_left
    · (intro w9 hSw; (try dsimp only at hSw); go_simp; try with_reducible rfl)
    try simp only [Act.put, List.setIfInBounds_toArray, List.set_cons_zero, List.set_cons_succ]
    refine wpAnyH_take (i := 8) (oi := { dst := some 30, op := Op.move (Operand.tmp 29), type := 4, pos := "laws.go:726", after := #[{ on := 7, ground := Ground.data }, { on := 6, ground := Ground.chain }], guard := none }) (v := ?_) rfl (by kernel_rfl) (by kernel_rfl) (by kernel_rfl) (fun _ _ _ h => h) (Or.inl ⟨by rfl, ?_⟩) (by assumption) ?_
    rotate_left
    · (intro w9 hSw; (try dsimp only at hSw); go_simp; try with_reducible rfl)
    try simp only [Act.put, List.setIfInBounds_toArray, List.set_cons_zero, List.set_cons_succ]
    refine wpAnyH_take (i := 9) (oi := { dst := some 31, op := Op.load 27 (Operand.tmp 3), type := 27, pos := "laws.go:726", after := #[{ on := 8, ground := Ground.guard }], guard := some (8, false) }) (v := ?_) rfl (by kernel_rfl) (by kernel_rfl) (by kernel_rfl) (fun _ _ _ h => h) (Or.inl ⟨by rfl, ?_⟩) (by assumption) ?_
    rotate_left
    · (intro w9 hSw; (try dsimp only at hSw); go_simp; try with_reducible rfl)
    try simp only [Act.put, List.setIfInBounds_toArray, List.set_cons_zero, List.set_cons_succ]
    refine wpAnyH_take (i := 10) (oi := { dst := some 32, op := Op.load 30 (Operand.tmp 4), type := 30, pos := "laws.go:726", after := #[{ on := 8, ground := Ground.guard }], guard := some (8, false) }) (v := ?_) rfl (by kernel_rfl) (by kernel_rfl) (by kernel_rfl) (fun _ _ _ h => h) (Or.inl ⟨by rfl, ?_⟩) (by assumption) ?_
    rotate_left
    · (intro w9 hSw; (try dsimp only at hSw); go_simp; try with_reducible rfl)
    try simp only [Act.put, List.setIfInBounds_toArray, List.set_cons_zero, List.set_cons_succ]
    refine wpAnyH_ready (rs := [11]) (by kernel_rfl) (by simp) ?_
    refine AllReadyH.cons (i := 11) (o := { dst := some 33, op := Op.call { callee := Callee.value (Operand.func 12), args := #[Operand.tmp 31, Operand.tmp 32], argTypes := #[27, 30] }, type := 4, pos := "laws.go:726", after := #[{ on := 9, ground := Ground.data }, { on := 10, ground := Ground.data }, { on := 8, ground := Ground.chain }, { on := 8, ground := Ground.guard }], guard := some (8, false) }) rfl (fun K hK => ?_) AllReadyH.nil
    go_simp
    refine ((unhide KA) _ (fut_trans (unhide HK) (S15.bel hHeld))).mono ?_
    rintro e u9 ⟨rfl, kb⟩
    have hq := S15.call hHeld kb
    clear kb hHeld
    refine hK.out _ _ hq (fun hHeld => ?_)
    clear hK K hq
    try simp only [Act.put, List.setIfInBounds_toArray, List.set_cons_zero, List.set_cons_succ]
    refine wpAnyH_take (i := 12) (oi := { dst := some 34, op := Op.unOp UnOp.not 4 (Operand.tmp 33), type := 4, pos := "laws.go:726", after := #[{ on := 11, ground := Ground.data }, { on := 8, ground := Ground.guard }], guard := some (8, false) }) (v := ?_) rfl (by kernel_rfl) (by kernel_rfl) (by kernel_rfl) (fun _ _ _ h => h) (Or.inl ⟨by rfl, ?_⟩) (by assumption) ?_
    rotate_left
    · (intro w9 hSw; (try dsimp only at hSw); go_simp; try with_reducible rfl)
    try simp only [Act.put, List.setIfInBounds_toArray, List.set_cons_zero, List.set_cons_succ]
    refine wpAnyH_take (i := 13) (oi := { dst := some 35, op := Op.pick (Operand.tmp 30) (Operand.const (Value.bool true)) (Operand.tmp 34), type := 4, pos := "laws.go:726", after := #[{ on := 8, ground := Ground.data }, { on := 12, ground := Ground.data }], guard := none }) (v := ?_) rfl (by kernel_rfl) (by kernel_rfl) (by kernel_rfl) (fun _ _ _ h => h) (Or.inl ⟨by rfl, ?_⟩) (by assumption) ?_
    rotate_left
    · (intro w9 hSw; (try dsimp only at hSw); go_simp; try with_reducible rfl)
    try simp only [Act.put, List.setIfInBounds_toArray, List.set_cons_zero, List.set_cons_succ]
    refine wpAnyH_take (i := 14) (oi := { dst := some 36, op := Op.move (Operand.tmp 35), type := 4, pos := "laws.go:726", after := #[{ on := 13, ground := Ground.data }, { on := 11, ground := Ground.chain }], guard := none }) (v := ?_) rfl (by kernel_rfl) (by kernel_rfl) (by kernel_rfl) (fun _ _ _ h => h) (Or.inl ⟨by rfl, ?_⟩) (by assumption) ?_
    rotate_left
    · (intro w9 hSw; (try dsimp only at hSw); go_simp; try with_reducible rfl)
    try simp only [Act.put, List.setIfInBounds_toArray, List.set_cons_zero, List.set_cons_succ]
    refine wpAnyH_take (i := 15) (oi := { dst := some 37, op := Op.load 27 (Operand.tmp 3), type := 27, pos := "laws.go:726", after := #[{ on := 14, ground := Ground.guard }], guard := some (14, false) }) (v := ?_) rfl (by kernel_rfl) (by kernel_rfl) (by kernel_rfl) (fun _ _ _ h => h) (Or.inl ⟨by rfl, ?_⟩) (by assumption) ?_
    rotate_left
    · (intro w9 hSw; (try dsimp only at hSw); go_simp; try with_reducible rfl)
    try simp only [Act.put, List.setIfInBounds_toArray, List.set_cons_zero, List.set_cons_succ]
    refine wpAnyH_take (i := 16) (oi := { dst := some 38, op := Op.load 30 (Operand.tmp 5), type := 30, pos := "laws.go:726", after := #[{ on := 14, ground := Ground.guard }], guard := some (14, false) }) (v := ?_) rfl (by kernel_rfl) (by kernel_rfl) (by kernel_rfl) (fun _ _ _ h => h) (Or.inl ⟨by rfl, ?_⟩) (by assumption) ?_
    rotate_left
    · (intro w9 hSw; (try dsimp only at hSw); go_simp; try with_reducible rfl)
    try simp only [Act.put, List.setIfInBounds_toArray, List.set_cons_zero, List.set_cons_succ]
    refine wpAnyH_ready (rs := [17]) (by kernel_rfl) (by simp) ?_
    refine AllReadyH.cons (i := 17) (o := { dst := some 39, op := Op.call { callee := Callee.value (Operand.func 12), args := #[Operand.tmp 37, Operand.tmp 38], argTypes := #[27, 30] }, type := 4, pos := "laws.go:726", after := #[{ on := 15, ground := Ground.data }, { on := 16, ground := Ground.data }, { on := 14, ground := Ground.chain }, { on := 14, ground := Ground.guard }], guard := some (14, false) }) rfl (fun K hK => ?_) AllReadyH.nil
    go_simp
    refine ((unhide KB) _ (fut_trans (unhide HK) (S15.bel hHeld))).mono ?_
    rintro e u9 ⟨rfl, kb⟩
    have hq := S15.call hHeld kb
    clear kb hHeld
    refine hK.out _ _ hq (fun hHeld => ?_)
    clear hK K hq
    try simp only [Act.put, List.setIfInBounds_toArray, List.set_cons_zero, List.set_cons_succ]
    refine wpAnyH_take (i := 18) (oi := { dst := some 40, op := Op.unOp UnOp.not 4 (Operand.tmp 39), type := 4, pos := "laws.go:726", after := #[{ on := 17, ground := Ground.data }, { on := 14, ground := Ground.guard }], guard := some (14, false) }) (v := ?_) rfl (by kernel_rfl) (by kernel_rfl) (by kernel_rfl) (fun _ _ _ h => h) (Or.inl ⟨by rfl, ?_⟩) (by assumption) ?_
    rotate_left
    · (intro w9 hSw; (try dsimp only at hSw); go_simp; try with_reducible rfl)
    try simp only [Act.put, List.setIfInBounds_toArray, List.set_cons_zero, List.set_cons_succ]
    refine wpAnyH_take (i := 19) (oi := { dst := some 41, op := Op.pick (Operand.tmp 36) (Operand.const (Value.bool true)) (Operand.tmp 40), type := 4, pos := "laws.go:726", after := #[{ on := 14, ground := Ground.data }, { on := 18, ground := Ground.data }], guard := none }) (v := ?_) rfl (by kernel_rfl) (by kernel_rfl) (by kernel_rfl) (fun _ _ _ h => h) (Or.inl ⟨by rfl, ?_⟩) (by assumption) ?_
    rotate_left
    · (intro w9 hSw; (try dsimp only at hSw); go_simp; try with_reducible rfl)
    try simp only [Act.put, List.setIfInBounds_toArray, List.set_cons_zero, List.set_cons_succ]
    refine wpAnyH_take (i := 20) (oi := { dst := some 42, op := Op.move (Operand.tmp 41), type := 4, pos := "laws.go:726", after := #[{ on := 19, ground := Ground.data }, { on := 17, ground := Ground.chain }], guard := none }) (v := ?_) rfl (by kernel_rfl) (by kernel_rfl) (by kernel_rfl) (fun _ _ _ h => h) (Or.inl ⟨by rfl, ?_⟩) (by assumption) ?_
    rotate_left
    · (intro w9 hSw; (try dsimp only at hSw); go_simp; try with_reducible rfl)
    try simp only [Act.put, List.setIfInBounds_toArray, List.set_cons_zero, List.set_cons_succ]
    refine wpAnyH_take (i := 21) (oi := { dst := some 43, op := Op.move (Operand.tmp 6), type := 33, pos := "laws.go:726", after := #[{ on := 20, ground := Ground.guard }], guard := some (20, false) }) (v := ?_) rfl (by kernel_rfl) (by kernel_rfl) (by kernel_rfl) (fun _ _ _ h => h) (Or.inl ⟨by rfl, ?_⟩) (by assumption) ?_
    rotate_left
    · (intro w9 hSw; (try dsimp only at hSw); go_simp; try with_reducible rfl)
    try simp only [Act.put, List.setIfInBounds_toArray, List.set_cons_zero, List.set_cons_succ]
    refine wpAnyH_take (i := 22) (oi := { dst := some 44, op := Op.call { callee := Callee.builtin Builtin.len, args := #[Operand.tmp 43], argTypes := #[33] }, type := 3, pos := "laws.go:726", after := #[{ on := 21, ground := Ground.data }, { on := 20, ground := Ground.guard }], guard := some (20, false) }) (v := ?_) rfl (by kernel_rfl) (by kernel_rfl) (by kernel_rfl) (fun _ _ _ h => h) (Or.inl ⟨by rfl, ?_⟩) (by assumption) ?_
    rotate_left
    · (intro w9 hSw; (try dsimp only at hSw); go_simp; try with_reducible rfl)
    try simp only [Act.put, List.setIfInBounds_toArray, List.set_cons_zero, List.set_cons_succ]
    refine wpAnyH_take (i := 23) (oi := { dst := some 45, op := Op.binOp BinOp.gtr 3 (Operand.tmp 44) (Operand.const (Value.int IntKind.i64 100)) 3, type := 4, pos := "laws.go:726", after := #[{ on := 22, ground := Ground.data }, { on := 20, ground := Ground.guard }], guard := some (20, false) }) (v := ?_) rfl (by kernel_rfl) (by kernel_rfl) (by kernel_rfl) (fun _ _ _ h => h) (Or.inl ⟨by rfl, ?_⟩) (by assumption) ?_
    rotate_left
    · (intro w9 hSw; (try dsimp only at hSw); go_simp; try with_reducible rfl)
    try simp only [Act.put, List.setIfInBounds_toArray, List.set_cons_zero, List.set_cons_succ]
    refine wpAnyH_take (i := 24) (oi := { dst := some 46, op := Op.pick (Operand.tmp 42) (Operand.const (Value.bool true)) (Operand.tmp 45), type := 4, pos := "laws.go:726", after := #[{ on := 20, ground := Ground.data }, { on := 23, ground := Ground.data }], guard := none }) (v := ?_) rfl (by kernel_rfl) (by kernel_rfl) (by kernel_rfl) (fun _ _ _ h => h) (Or.inl ⟨by rfl, ?_⟩) (by assumption) ?_
    rotate_left
    · (intro w9 hSw; (try dsimp only at hSw); go_simp; try with_reducible rfl)
    try simp only [Act.put, List.setIfInBounds_toArray, List.set_cons_zero, List.set_cons_succ]
    refine wpAnyH_done (by kernel_rfl) ?_ _
    have HK2 := hide (fut_trans (unhide HK) (S15.bel hHeld))
    have HJI2 := hide (And.intro ((unhide HJI).1.call (S15.bel hHeld)) ((unhide HJI).2.call (S15.bel hHeld)))
    have HJB2 := hide ((unhide HJB).call (S15.bel hHeld))
    clear hHeld HHS HJI HJB HK
    generalize u9 = ur at HJI2 HJB2 HK2 ⊢
    go_upto_region 7 with fail
    have HJI := HJI2
    have HJB := HJB2
    have HK := HK2
    clear HJI2 HJB2 HK2
    have hs := S15.of ((unhide HBX).1.call (unhide HK)) ((unhide HBX).2.1.call (unhide HK)) ((unhide HBX).2.2.1.call (unhide HK)) (unhide HJB) (unhide HJB) (Below.refl ur.heap.size ur)
    have HHS := hide hs
    clear hs
    have HIA : Hid (∀ w, Below ub.heap.size ub w → Ivs w oa xs ∧ Ivs w ob ys) := fun w k => ⟨((unhide HRW).2.2.2.2.1.call k), ((unhide HRW).2.2.2.2.2.1.call k)⟩
    have HG := hide (wdn_good hst2 (unhide HA) (unhide HBB) (unhide HIN) (unhide HE))
    have KWW : Hid (∀ w, Below ub.heap.size ub w → Ivs w ox wx ∧ Ivs w oy wy → Calls Tryd.prog 23 #[.agg #[.slice a1 vs.length c1, .slice a2 fs.length c2, .slice a3 rs.length c3], .agg #[.bool wl, .slice ox wx.length cx, .slice oy wy.length cy], .agg #[.bool lj, .slice oc xs2.length cc, .slice od ys2.length cd], .slice (some ⟨sg, 0, none⟩) st.length sc] w (Ans3 wl wx wy w)) := fun w k hr => by
      have q := iEnvWiden_c a1 a2 a3 c1 c2 c3 vs fs rs wl ox oy cx cy wx wy lj oc od cc cd xs2 ys2 (some ⟨sg, 0, none⟩) sc st w ((unhide HRW).1.call k) ((unhide HRW).2.1.call k) ((unhide HRW).2.2.1.call k) ((unhide HRW).2.2.2.1.call k) (unhide HZ) hr.1 hr.2 ((unhide HRW).2.2.2.2.2.2.1.call k) ((unhide HRW).2.2.2.2.2.2.2.call k) ((unhide HST).call k)
      rw [(unhide HG).2.2.1.1, (unhide HG).2.2.1.2] at q
      exact q
    have KWN : Hid (∀ w, Below ub.heap.size ub w → Ivs w ox wx ∧ Ivs w oy wy → Calls Tryd.prog 23 #[.agg #[.slice a1 vs.length c1, .slice a2 fs.length c2, .slice a3 rs.length c3], .agg #[.bool wl, .slice ox wx.length cx, .slice oy wy.length cy], .agg #[.bool li, .slice oa xs.length ca, .slice ob ys.length cb], .slice none 0 0] w (Ans3 wl wx wy w)) := fun w k hr => by
      have q := iEnvWiden_c a1 a2 a3 c1 c2 c3 vs fs rs wl ox oy cx cy wx wy li oa ob ca cb xs ys none 0 [] w ((unhide HRW).1.call k) ((unhide HRW).2.1.call k) ((unhide HRW).2.2.1.call k) ((unhide HRW).2.2.2.1.call k) (unhide HZ) hr.1 hr.2 ((unhide HRW).2.2.2.2.1.call k) ((unhide HRW).2.2.2.2.2.1.call k) ⟨by simp, .inl rfl⟩
      rw [(unhide HG).2.2.2.1, (unhide HG).2.2.2.2] at q
      exact q
    refine wp_region_held_drew (S := (S15 ur u1.heap.size pj pj (.slice a1 vs.length c1) (.slice a2 fs.length c2) (.slice a3 rs.length c3) (.bool li) (.slice oa xs.length ca) (.slice ob ys.length cb) (.bool lj) (.slice oc xs2.length cc) (.slice od ys2.length cd) (.bool wl) (.slice ox wx.length cx) (.slice oy wy.length cy) (.bool wl) (.slice ox wx.length cx) (.slice oy wy.length cy))) (by kernel_rfl) (S15.drew (unhide HHS)) (fun hHeld => ?_)
    refine wpAnyH_take (i := 0) (oi := { dst := some 54, op := Op.load 27 (Operand.tmp 3), type := 27, pos := "laws.go:729", after := #[], guard := none }) (v := ?_) rfl (by kernel_rfl) (by kernel_rfl) (by kernel_rfl) (fun _ _ _ h => h) (Or.inl ⟨by rfl, ?_⟩) (by assumption) ?_
    rotate_left
    · (intro w9 hSw; (try dsimp only at hSw); go_simp; try with_reducible rfl)
    try simp only [Act.put, List.setIfInBounds_toArray, List.set_cons_zero, List.set_cons_succ]
    refine wpAnyH_take (i := 1) (oi := { dst := some 55, op := Op.load 30 (Operand.tmp 4), type := 30, pos := "laws.go:729", after := #[], guard := none }) (v := ?_) rfl (by kernel_rfl) (by kernel_rfl) (by kernel_rfl) (fun _ _ _ h => h) (Or.inl ⟨by rfl, ?_⟩) (by assumption) ?_
    rotate_left
    · (intro w9 hSw; (try dsimp only at hSw); go_simp; try with_reducible rfl)
    try simp only [Act.put, List.setIfInBounds_toArray, List.set_cons_zero, List.set_cons_succ]
    refine wpAnyH_take (i := 2) (oi := { dst := some 56, op := Op.load 30 (Operand.tmp 7), type := 30, pos := "laws.go:729", after := #[], guard := none }) (v := ?_) rfl (by kernel_rfl) (by kernel_rfl) (by kernel_rfl) (fun _ _ _ h => h) (Or.inl ⟨by rfl, ?_⟩) (by assumption) ?_
    rotate_left
    · (intro w9 hSw; (try dsimp only at hSw); go_simp; try with_reducible rfl)
    try simp only [Act.put, List.setIfInBounds_toArray, List.set_cons_zero, List.set_cons_succ]
    refine wpAnyH_ready (rs := [3]) (by kernel_rfl) (by simp) ?_
    refine AllReadyH.cons (i := 3) (o := { dst := some 57, op := Op.call { callee := Callee.value (Operand.func 20), args := #[Operand.tmp 54, Operand.tmp 55, Operand.tmp 56], argTypes := #[27, 30, 30] }, type := 4, pos := "laws.go:729", after := #[{ on := 0, ground := Ground.data }, { on := 1, ground := Ground.data }, { on := 2, ground := Ground.data }], guard := none }) rfl (fun K hK => ?_) AllReadyH.nil
    go_simp
    refine (leqD_at ((unhide HRW).1.call (fut_trans (unhide HK) (S15.bel hHeld))) ((unhide HRW).2.1.call (fut_trans (unhide HK) (S15.bel hHeld))) ((unhide HRW).2.2.1.call (fut_trans (unhide HK) (S15.bel hHeld))) ((unhide HRW).2.2.2.1.call (fut_trans (unhide HK) (S15.bel hHeld))) (unhide HZ) (And.intro ((unhide HRW).2.2.2.2.1.call (fut_trans (unhide HK) (S15.bel hHeld))) ((unhide HRW).2.2.2.2.2.1.call (fut_trans (unhide HK) (S15.bel hHeld)))) (And.intro ((unhide HJI).1.call (S15.bel hHeld)) ((unhide HJI).2.call (S15.bel hHeld))) (unhide HG).1).mono ?_
    rintro e u9 ⟨rfl, kb⟩
    have hq := S15.call hHeld kb
    clear kb hHeld
    refine hK.out _ _ hq (fun hHeld => ?_)
    clear hK K hq
    try simp only [Act.put, List.setIfInBounds_toArray, List.set_cons_zero, List.set_cons_succ]
    refine wpAnyH_take (i := 4) (oi := { dst := some 58, op := Op.move (Operand.tmp 57), type := 4, pos := "laws.go:729", after := #[{ on := 3, ground := Ground.data }, { on := 3, ground := Ground.chain }], guard := none }) (v := ?_) rfl (by kernel_rfl) (by kernel_rfl) (by kernel_rfl) (fun _ _ _ h => h) (Or.inl ⟨by rfl, ?_⟩) (by assumption) ?_
    rotate_left
    · (intro w9 hSw; (try dsimp only at hSw); go_simp; try with_reducible rfl)
    try simp only [Act.put, List.setIfInBounds_toArray, List.set_cons_zero, List.set_cons_succ]
    refine wpAnyH_take (i := 5) (oi := { dst := some 59, op := Op.load 27 (Operand.tmp 3), type := 27, pos := "laws.go:729", after := #[{ on := 4, ground := Ground.guard }], guard := some (4, true) }) (v := ?_) rfl (by kernel_rfl) (by kernel_rfl) (by kernel_rfl) (fun _ _ _ h => h) (Or.inl ⟨by rfl, ?_⟩) (by assumption) ?_
    rotate_left
    · (intro w9 hSw; (try dsimp only at hSw); go_simp; try with_reducible rfl)
    try simp only [Act.put, List.setIfInBounds_toArray, List.set_cons_zero, List.set_cons_succ]
    refine wpAnyH_take (i := 6) (oi := { dst := some 60, op := Op.load 30 (Operand.tmp 5), type := 30, pos := "laws.go:729", after := #[{ on := 4, ground := Ground.guard }], guard := some (4, true) }) (v := ?_) rfl (by kernel_rfl) (by kernel_rfl) (by kernel_rfl) (fun _ _ _ h => h) (Or.inl ⟨by rfl, ?_⟩) (by assumption) ?_
    rotate_left
    · (intro w9 hSw; (try dsimp only at hSw); go_simp; try with_reducible rfl)
    try simp only [Act.put, List.setIfInBounds_toArray, List.set_cons_zero, List.set_cons_succ]
    refine wpAnyH_take (i := 7) (oi := { dst := some 61, op := Op.load 30 (Operand.tmp 7), type := 30, pos := "laws.go:729", after := #[{ on := 4, ground := Ground.guard }], guard := some (4, true) }) (v := ?_) rfl (by kernel_rfl) (by kernel_rfl) (by kernel_rfl) (fun _ _ _ h => h) (Or.inl ⟨by rfl, ?_⟩) (by assumption) ?_
    rotate_left
    · (intro w9 hSw; (try dsimp only at hSw); go_simp; try with_reducible rfl)
    try simp only [Act.put, List.setIfInBounds_toArray, List.set_cons_zero, List.set_cons_succ]
    refine wpAnyH_ready (rs := [8]) (by kernel_rfl) (by simp) ?_
    refine AllReadyH.cons (i := 8) (o := { dst := some 62, op := Op.call { callee := Callee.value (Operand.func 20), args := #[Operand.tmp 59, Operand.tmp 60, Operand.tmp 61], argTypes := #[27, 30, 30] }, type := 4, pos := "laws.go:729", after := #[{ on := 5, ground := Ground.data }, { on := 6, ground := Ground.data }, { on := 7, ground := Ground.data }, { on := 4, ground := Ground.chain }, { on := 4, ground := Ground.guard }], guard := some (4, true) }) rfl (fun K hK => ?_) AllReadyH.nil
    go_simp
    refine (leqD_at ((unhide HRW).1.call (fut_trans (unhide HK) (S15.bel hHeld))) ((unhide HRW).2.1.call (fut_trans (unhide HK) (S15.bel hHeld))) ((unhide HRW).2.2.1.call (fut_trans (unhide HK) (S15.bel hHeld))) ((unhide HRW).2.2.2.1.call (fut_trans (unhide HK) (S15.bel hHeld))) (unhide HZ) (And.intro ((unhide HRW).2.2.2.2.2.2.1.call (fut_trans (unhide HK) (S15.bel hHeld))) ((unhide HRW).2.2.2.2.2.2.2.call (fut_trans (unhide HK) (S15.bel hHeld)))) (And.intro ((unhide HJI).1.call (S15.bel hHeld)) ((unhide HJI).2.call (S15.bel hHeld))) (unhide HG).2.1).mono ?_
    rintro e u9 ⟨rfl, kb⟩
    have hq := S15.call hHeld kb
    clear kb hHeld
    refine hK.out _ _ hq (fun hHeld => ?_)
    clear hK K hq
    try simp only [Act.put, List.setIfInBounds_toArray, List.set_cons_zero, List.set_cons_succ]
    refine wpAnyH_take (i := 9) (oi := { dst := some 63, op := Op.pick (Operand.tmp 58) (Operand.tmp 62) (Operand.const (Value.bool false)), type := 4, pos := "laws.go:729", after := #[{ on := 4, ground := Ground.data }, { on := 8, ground := Ground.data }], guard := none }) (v := ?_) rfl (by kernel_rfl) (by kernel_rfl) (by kernel_rfl) (fun _ _ _ h => h) (Or.inl ⟨by rfl, ?_⟩) (by assumption) ?_
    rotate_left
    · (intro w9 hSw; (try dsimp only at hSw); go_simp; try with_reducible rfl)
    try simp only [Act.put, List.setIfInBounds_toArray, List.set_cons_zero, List.set_cons_succ]
    refine wpAnyH_take (i := 10) (oi := { dst := some 64, op := Op.move (Operand.tmp 63), type := 4, pos := "laws.go:729", after := #[{ on := 9, ground := Ground.data }, { on := 8, ground := Ground.chain }], guard := none }) (v := ?_) rfl (by kernel_rfl) (by kernel_rfl) (by kernel_rfl) (fun _ _ _ h => h) (Or.inl ⟨by rfl, ?_⟩) (by assumption) ?_
    rotate_left
    · (intro w9 hSw; (try dsimp only at hSw); go_simp; try with_reducible rfl)
    try simp only [Act.put, List.setIfInBounds_toArray, List.set_cons_zero, List.set_cons_succ]
    refine wpAnyH_take (i := 11) (oi := { dst := some 65, op := Op.load 27 (Operand.tmp 3), type := 27, pos := "laws.go:729", after := #[{ on := 10, ground := Ground.guard }], guard := some (10, true) }) (v := ?_) rfl (by kernel_rfl) (by kernel_rfl) (by kernel_rfl) (fun _ _ _ h => h) (Or.inl ⟨by rfl, ?_⟩) (by assumption) ?_
    rotate_left
    · (intro w9 hSw; (try dsimp only at hSw); go_simp; try with_reducible rfl)
    try simp only [Act.put, List.setIfInBounds_toArray, List.set_cons_zero, List.set_cons_succ]
    refine wpAnyH_take (i := 12) (oi := { dst := some 66, op := Op.load 30 (Operand.tmp 7), type := 30, pos := "laws.go:729", after := #[{ on := 10, ground := Ground.guard }], guard := some (10, true) }) (v := ?_) rfl (by kernel_rfl) (by kernel_rfl) (by kernel_rfl) (fun _ _ _ h => h) (Or.inl ⟨by rfl, ?_⟩) (by assumption) ?_
    rotate_left
    · (intro w9 hSw; (try dsimp only at hSw); go_simp; try with_reducible rfl)
    try simp only [Act.put, List.setIfInBounds_toArray, List.set_cons_zero, List.set_cons_succ]
    refine wpAnyH_take (i := 13) (oi := { dst := some 67, op := Op.load 30 (Operand.tmp 5), type := 30, pos := "laws.go:729", after := #[{ on := 10, ground := Ground.guard }], guard := some (10, true) }) (v := ?_) rfl (by kernel_rfl) (by kernel_rfl) (by kernel_rfl) (fun _ _ _ h => h) (Or.inl ⟨by rfl, ?_⟩) (by assumption) ?_
    rotate_left
    · (intro w9 hSw; (try dsimp only at hSw); go_simp; try with_reducible rfl)
    try simp only [Act.put, List.setIfInBounds_toArray, List.set_cons_zero, List.set_cons_succ]
    refine wpAnyH_take (i := 14) (oi := { dst := some 68, op := Op.move (Operand.tmp 6), type := 33, pos := "laws.go:729", after := #[{ on := 10, ground := Ground.guard }], guard := some (10, true) }) (v := ?_) rfl (by kernel_rfl) (by kernel_rfl) (by kernel_rfl) (fun _ _ _ h => h) (Or.inl ⟨by rfl, ?_⟩) (by assumption) ?_
    rotate_left
    · (intro w9 hSw; (try dsimp only at hSw); go_simp; try with_reducible rfl)
    try simp only [Act.put, List.setIfInBounds_toArray, List.set_cons_zero, List.set_cons_succ]
    refine wpAnyH_take (i := 16) (oi := { dst := some 70, op := Op.load 30 (Operand.tmp 7), type := 30, pos := "laws.go:729", after := #[{ on := 10, ground := Ground.guard }], guard := some (10, true) }) (v := ?_) rfl (by kernel_rfl) (by kernel_rfl) (by kernel_rfl) (fun _ _ _ h => h) (Or.inl ⟨by rfl, ?_⟩) (by assumption) ?_
    rotate_left
    · (intro w9 hSw; (try dsimp only at hSw); go_simp; try with_reducible rfl)
    try simp only [Act.put, List.setIfInBounds_toArray, List.set_cons_zero, List.set_cons_succ]
    refine wpAnyH_ready (rs := [15]) (by kernel_rfl) (by simp) ?_
    refine AllReadyH.cons (i := 15) (o := { dst := some 69, op := Op.call { callee := Callee.value (Operand.func 23), args := #[Operand.tmp 65, Operand.tmp 66, Operand.tmp 67, Operand.tmp 68], argTypes := #[27, 30, 30, 33] }, type := 30, pos := "laws.go:729", after := #[{ on := 11, ground := Ground.data }, { on := 12, ground := Ground.data }, { on := 13, ground := Ground.data }, { on := 14, ground := Ground.data }, { on := 10, ground := Ground.chain }, { on := 10, ground := Ground.guard }], guard := some (10, true) }) rfl (fun K hK => ?_) AllReadyH.nil
    go_simp
    refine ((unhide KWW) _ (fut_trans (unhide HK) (S15.bel hHeld)) (And.intro ((unhide HJI).1.call (S15.bel hHeld)) ((unhide HJI).2.call (S15.bel hHeld)))).mono ?_
    rintro e u9 ⟨o1, n1, o2, n2, rfl, hre, kb⟩
    have HI := hide (hre.ivs (unhide LW))
    clear hre
    have hq := S15.call hHeld kb
    clear kb hHeld
    refine hK.out _ _ hq (fun hHeld => ?_)
    clear hK K hq
    try simp only [Act.put, List.setIfInBounds_toArray, List.set_cons_zero, List.set_cons_succ]
    refine wpAnyH_ready (rs := [17]) (by kernel_rfl) (by simp) ?_
    refine AllReadyH.cons (i := 17) (o := { dst := some 71, op := Op.call { callee := Callee.value (Operand.func 17), args := #[Operand.tmp 69, Operand.tmp 70], argTypes := #[30, 30] }, type := 4, pos := "laws.go:729", after := #[{ on := 15, ground := Ground.data }, { on := 16, ground := Ground.data }, { on := 15, ground := Ground.chain }, { on := 10, ground := Ground.guard }], guard := some (10, true) }) rfl (fun K hK => ?_) AllReadyH.nil
    go_simp
    refine (same_again (unhide HI) (And.intro ((unhide HJI).1.call (S15.bel hHeld)) ((unhide HJI).2.call (S15.bel hHeld)))).mono ?_
    rintro e u9 ⟨rfl, kb⟩
    clear HI
    have hq := S15.call hHeld kb
    clear kb hHeld
    refine hK.out _ _ hq (fun hHeld => ?_)
    clear hK K hq
    try simp only [Act.put, List.setIfInBounds_toArray, List.set_cons_zero, List.set_cons_succ]
    refine wpAnyH_take (i := 18) (oi := { dst := some 72, op := Op.pick (Operand.tmp 64) (Operand.tmp 71) (Operand.const (Value.bool false)), type := 4, pos := "laws.go:729", after := #[{ on := 10, ground := Ground.data }, { on := 17, ground := Ground.data }], guard := none }) (v := ?_) rfl (by kernel_rfl) (by kernel_rfl) (by kernel_rfl) (fun _ _ _ h => h) (Or.inl ⟨by rfl, ?_⟩) (by assumption) ?_
    rotate_left
    · (intro w9 hSw; (try dsimp only at hSw); go_simp; try with_reducible rfl)
    try simp only [Act.put, List.setIfInBounds_toArray, List.set_cons_zero, List.set_cons_succ]
    refine wpAnyH_take (i := 19) (oi := { dst := some 73, op := Op.move (Operand.tmp 72), type := 4, pos := "laws.go:729", after := #[{ on := 18, ground := Ground.data }, { on := 17, ground := Ground.chain }], guard := none }) (v := ?_) rfl (by kernel_rfl) (by kernel_rfl) (by kernel_rfl) (fun _ _ _ h => h) (Or.inl ⟨by rfl, ?_⟩) (by assumption) ?_
    rotate_left
    · (intro w9 hSw; (try dsimp only at hSw); go_simp; try with_reducible rfl)
    try simp only [Act.put, List.setIfInBounds_toArray, List.set_cons_zero, List.set_cons_succ]
    refine wpAnyH_take (i := 20) (oi := { dst := some 74, op := Op.load 27 (Operand.tmp 3), type := 27, pos := "laws.go:729", after := #[{ on := 19, ground := Ground.guard }], guard := some (19, true) }) (v := ?_) rfl (by kernel_rfl) (by kernel_rfl) (by kernel_rfl) (fun _ _ _ h => h) (Or.inl ⟨by rfl, ?_⟩) (by assumption) ?_
    rotate_left
    · (intro w9 hSw; (try dsimp only at hSw); go_simp; try with_reducible rfl)
    try simp only [Act.put, List.setIfInBounds_toArray, List.set_cons_zero, List.set_cons_succ]
    refine wpAnyH_take (i := 21) (oi := { dst := some 75, op := Op.load 30 (Operand.tmp 7), type := 30, pos := "laws.go:729", after := #[{ on := 19, ground := Ground.guard }], guard := some (19, true) }) (v := ?_) rfl (by kernel_rfl) (by kernel_rfl) (by kernel_rfl) (fun _ _ _ h => h) (Or.inl ⟨by rfl, ?_⟩) (by assumption) ?_
    rotate_left
    · (intro w9 hSw; (try dsimp only at hSw); go_simp; try with_reducible rfl)
    try simp only [Act.put, List.setIfInBounds_toArray, List.set_cons_zero, List.set_cons_succ]
    refine wpAnyH_take (i := 22) (oi := { dst := some 76, op := Op.load 30 (Operand.tmp 4), type := 30, pos := "laws.go:729", after := #[{ on := 19, ground := Ground.guard }], guard := some (19, true) }) (v := ?_) rfl (by kernel_rfl) (by kernel_rfl) (by kernel_rfl) (fun _ _ _ h => h) (Or.inl ⟨by rfl, ?_⟩) (by assumption) ?_
    rotate_left
    · (intro w9 hSw; (try dsimp only at hSw); go_simp; try with_reducible rfl)
    try simp only [Act.put, List.setIfInBounds_toArray, List.set_cons_zero, List.set_cons_succ]
    refine wpAnyH_take (i := 24) (oi := { dst := some 78, op := Op.load 30 (Operand.tmp 7), type := 30, pos := "laws.go:729", after := #[{ on := 19, ground := Ground.guard }], guard := some (19, true) }) (v := ?_) rfl (by kernel_rfl) (by kernel_rfl) (by kernel_rfl) (fun _ _ _ h => h) (Or.inl ⟨by rfl, ?_⟩) (by assumption) ?_
    rotate_left
    · (intro w9 hSw; (try dsimp only at hSw); go_simp; try with_reducible rfl)
    try simp only [Act.put, List.setIfInBounds_toArray, List.set_cons_zero, List.set_cons_succ]
    refine wpAnyH_ready (rs := [23]) (by kernel_rfl) (by simp) ?_
    refine AllReadyH.cons (i := 23) (o := { dst := some 77, op := Op.call { callee := Callee.value (Operand.func 23), args := #[Operand.tmp 74, Operand.tmp 75, Operand.tmp 76, Operand.const (Value.slice none 0 0)], argTypes := #[27, 30, 30, 33] }, type := 30, pos := "laws.go:729", after := #[{ on := 20, ground := Ground.data }, { on := 21, ground := Ground.data }, { on := 22, ground := Ground.data }, { on := 19, ground := Ground.chain }, { on := 19, ground := Ground.guard }], guard := some (19, true) }) rfl (fun K hK => ?_) AllReadyH.nil
    go_simp
    refine ((unhide KWN) _ (fut_trans (unhide HK) (S15.bel hHeld)) (And.intro ((unhide HJI).1.call (S15.bel hHeld)) ((unhide HJI).2.call (S15.bel hHeld)))).mono ?_
    rintro e u9 ⟨o1, n1, o2, n2, rfl, hre, kb⟩
    have HI := hide (hre.ivs (unhide LW))
    clear hre
    have hq := S15.call hHeld kb
    clear kb hHeld
    refine hK.out _ _ hq (fun hHeld => ?_)
    clear hK K hq
    try simp only [Act.put, List.setIfInBounds_toArray, List.set_cons_zero, List.set_cons_succ]
    refine wpAnyH_ready (rs := [25]) (by kernel_rfl) (by simp) ?_
    refine AllReadyH.cons (i := 25) (o := { dst := some 79, op := Op.call { callee := Callee.value (Operand.func 17), args := #[Operand.tmp 77, Operand.tmp 78], argTypes := #[30, 30] }, type := 4, pos := "laws.go:729", after := #[{ on := 23, ground := Ground.data }, { on := 24, ground := Ground.data }, { on := 23, ground := Ground.chain }, { on := 19, ground := Ground.guard }], guard := some (19, true) }) rfl (fun K hK => ?_) AllReadyH.nil
    go_simp
    refine (same_again (unhide HI) (And.intro ((unhide HJI).1.call (S15.bel hHeld)) ((unhide HJI).2.call (S15.bel hHeld)))).mono ?_
    rintro e u9 ⟨rfl, kb⟩
    clear HI
    have hq := S15.call hHeld kb
    clear kb hHeld
    refine hK.out _ _ hq (fun hHeld => ?_)
    clear hK K hq
    try simp only [Act.put, List.setIfInBounds_toArray, List.set_cons_zero, List.set_cons_succ]
    refine wpAnyH_take (i := 26) (oi := { dst := some 80, op := Op.pick (Operand.tmp 73) (Operand.tmp 79) (Operand.const (Value.bool false)), type := 4, pos := "laws.go:729", after := #[{ on := 19, ground := Ground.data }, { on := 25, ground := Ground.data }], guard := none }) (v := ?_) rfl (by kernel_rfl) (by kernel_rfl) (by kernel_rfl) (fun _ _ _ h => h) (Or.inl ⟨by rfl, ?_⟩) (by assumption) ?_
    rotate_left
    · (intro w9 hSw; (try dsimp only at hSw); go_simp; try with_reducible rfl)
    try simp only [Act.put, List.setIfInBounds_toArray, List.set_cons_zero, List.set_cons_succ]
    refine wpAnyH_take (i := 27) (oi := { dst := some 2, op := Op.assign (Operand.tmp 80), type := 4, pos := "laws.go:729", after := #[{ on := 26, ground := Ground.data }, { on := 25, ground := Ground.chain }, { on := 0, ground := Ground.phase }, { on := 1, ground := Ground.phase }, { on := 2, ground := Ground.phase }, { on := 3, ground := Ground.phase }, { on := 4, ground := Ground.phase }, { on := 5, ground := Ground.phase }, { on := 6, ground := Ground.phase }, { on := 7, ground := Ground.phase }, { on := 8, ground := Ground.phase }, { on := 9, ground := Ground.phase }, { on := 10, ground := Ground.phase }, { on := 11, ground := Ground.phase }, { on := 12, ground := Ground.phase }, { on := 13, ground := Ground.phase }, { on := 14, ground := Ground.phase }, { on := 15, ground := Ground.phase }, { on := 16, ground := Ground.phase }, { on := 17, ground := Ground.phase }, { on := 18, ground := Ground.phase }, { on := 19, ground := Ground.phase }, { on := 20, ground := Ground.phase }, { on := 21, ground := Ground.phase }, { on := 22, ground := Ground.phase }, { on := 23, ground := Ground.phase }, { on := 24, ground := Ground.phase }, { on := 25, ground := Ground.phase }, { on := 26, ground := Ground.phase }], guard := none }) (v := ?_) rfl (by kernel_rfl) (by kernel_rfl) (by kernel_rfl) (fun _ _ _ h => h) (Or.inl ⟨by rfl, ?_⟩) (by assumption) ?_
    rotate_left
    · (intro w9 hSw; (try dsimp only at hSw); go_simp; try with_reducible rfl)
    try simp only [Act.put, List.setIfInBounds_toArray, List.set_cons_zero, List.set_cons_succ]
    refine wpAnyH_done (by kernel_rfl) ?_ _
    have HB := hide ((unhide HB).trans ((fut_trans (unhide HK) (S15.bel hHeld)).mono (unhide HB).size))
    clear hHeld
    go_wp2
    go_ret
    exact ⟨rfl, unhide HB⟩
  · have hcmp : decide ((100 : Int) < (st.length : Int)) = true := decide_eq_true (by omega)
    have hcmp2 : (100 : Int) < (st.length : Int) := by omega
    have hs := S15.of ((unhide HBX).1.call (unhide HK)) ((unhide HBX).2.1.call (unhide HK)) ((unhide HBX).2.2.1.call (unhide HK)) (unhide HJB) (unhide HJB) (Below.refl u4.heap.size u4)
    have HHS := hide hs
    clear hs
    refine wp_region_held_drew (S := (S15 u4 u1.heap.size pj pj (.slice a1 vs.length c1) (.slice a2 fs.length c2) (.slice a3 rs.length c3) (.bool li) (.slice oa xs.length ca) (.slice ob ys.length cb) (.bool lj) (.slice oc xs2.length cc) (.slice od ys2.length cd) (.bool wl) (.slice ox wx.length cx) (.slice oy wy.length cy) (.bool wl) (.slice ox wx.length cx) (.slice oy wy.length cy))) (by kernel_rfl) (S15.drew (unhide HHS)) (fun hHeld => ?_)
    refine wpAnyH_take (i := 0) (oi := { dst := some 22, op := Op.load 30 (Operand.tmp 7), type := 30, pos := "laws.go:726", after := #[], guard := none }) (v := ?_) rfl (by kernel_rfl) (by kernel_rfl) (by kernel_rfl) (fun _ _ _ h => h) (Or.inl ⟨by rfl, ?_⟩) (by assumption) ?_
    rotate_left
    · (intro w9 hSw; (try dsimp only at hSw); go_simp; try with_reducible rfl)
    try simp only [Act.put, List.setIfInBounds_toArray, List.set_cons_zero, List.set_cons_succ]
    refine wpAnyH_take (i := 1) (oi := { dst := some 23, op := Op.load 27 (Operand.tmp 3), type := 27, pos := "laws.go:726", after := #[], guard := none }) (v := ?_) rfl (by kernel_rfl) (by kernel_rfl) (by kernel_rfl) (fun _ _ _ h => h) (Or.inl ⟨by rfl, ?_⟩) (by assumption) ?_
    rotate_left
    · (intro w9 hSw; (try dsimp only at hSw); go_simp; try with_reducible rfl)
    try simp only [Act.put, List.setIfInBounds_toArray, List.set_cons_zero, List.set_cons_succ]
    refine wpAnyH_take (i := 2) (oi := { dst := some 24, op := Op.load 30 (Operand.tmp 4), type := 30, pos := "laws.go:726", after := #[], guard := none }) (v := ?_) rfl (by kernel_rfl) (by kernel_rfl) (by kernel_rfl) (fun _ _ _ h => h) (Or.inl ⟨by rfl, ?_⟩) (by assumption) ?_
    rotate_left
    · (intro w9 hSw; (try dsimp only at hSw); go_simp; try with_reducible rfl)
    try simp only [Act.put, List.setIfInBounds_toArray, List.set_cons_zero, List.set_cons_succ]
    refine wpAnyH_take (i := 3) (oi := { dst := some 25, op := Op.load 30 (Operand.tmp 5), type := 30, pos := "laws.go:726", after := #[], guard := none }) (v := ?_) rfl (by kernel_rfl) (by kernel_rfl) (by kernel_rfl) (fun _ _ _ h => h) (Or.inl ⟨by rfl, ?_⟩) (by assumption) ?_
    rotate_left
    · (intro w9 hSw; (try dsimp only at hSw); go_simp; try with_reducible rfl)
    try simp only [Act.put, List.setIfInBounds_toArray, List.set_cons_zero, List.set_cons_succ]
    refine wpAnyH_take (i := 4) (oi := { dst := some 26, op := Op.move (Operand.tmp 6), type := 33, pos := "laws.go:726", after := #[], guard := none }) (v := ?_) rfl (by kernel_rfl) (by kernel_rfl) (by kernel_rfl) (fun _ _ _ h => h) (Or.inl ⟨by rfl, ?_⟩) (by assumption) ?_
    rotate_left
    · (intro w9 hSw; (try dsimp only at hSw); go_simp; try with_reducible rfl)
    try simp only [Act.put, List.setIfInBounds_toArray, List.set_cons_zero, List.set_cons_succ]
    refine wpAnyH_ready (rs := [5]) (by kernel_rfl) (by simp) ?_
    refine AllReadyH.cons (i := 5) (o := { dst := some 27, op := Op.call { callee := Callee.value (Operand.func 24), args := #[Operand.tmp 23, Operand.tmp 24, Operand.tmp 25, Operand.tmp 26], argTypes := #[27, 30, 30, 33] }, type := 30, pos := "laws.go:726", after := #[{ on := 1, ground := Ground.data }, { on := 2, ground := Ground.data }, { on := 3, ground := Ground.data }, { on := 4, ground := Ground.data }], guard := none }) rfl (fun K hK => ?_) AllReadyH.nil
    go_simp
    refine ((unhide KWS) _ (fut_trans (unhide HK) (S15.bel hHeld))).mono ?_
    rintro e u9 ⟨o1, n1, o2, n2, rfl, hre, kb⟩
    have HI := hide (hre.ivs (unhide LW))
    clear hre
    have hq := S15.call hHeld kb
    clear kb hHeld
    refine hK.out _ _ hq (fun hHeld => ?_)
    clear hK K hq
    try simp only [Act.put, List.setIfInBounds_toArray, List.set_cons_zero, List.set_cons_succ]
    refine wpAnyH_ready (rs := [6]) (by kernel_rfl) (by simp) ?_
    refine AllReadyH.cons (i := 6) (o := { dst := some 28, op := Op.call { callee := Callee.value (Operand.func 17), args := #[Operand.tmp 22, Operand.tmp 27], argTypes := #[30, 30] }, type := 4, pos := "laws.go:726", after := #[{ on := 0, ground := Ground.data }, { on := 5, ground := Ground.data }, { on := 5, ground := Ground.chain }], guard := none }) rfl (fun K hK => ?_) AllReadyH.nil
    go_simp
    refine (same_again (And.intro ((unhide HJI).1.call (S15.bel hHeld)) ((unhide HJI).2.call (S15.bel hHeld))) (unhide HI)).mono ?_
    rintro e u9 ⟨rfl, kb⟩
    clear HI
    have hq := S15.call hHeld kb
    clear kb hHeld
    refine hK.out _ _ hq (fun hHeld => ?_)
    clear hK K hq
    try simp only [Act.put, List.setIfInBounds_toArray, List.set_cons_zero, List.set_cons_succ]
    refine wpAnyH_take (i := 7) (oi := { dst := some 29, op := Op.unOp UnOp.not 4 (Operand.tmp 28), type := 4, pos := "laws.go:726", after := #[{ on := 6, ground := Ground.data }], guard := none }) (v := ?_) rfl (by kernel_rfl) (by kernel_rfl) (by kernel_rfl) (fun _ _ _ h => h) (Or.inl ⟨by rfl, ?_⟩) (by assumption) ?_
    rotate_left
    · (intro w9 hSw; (try dsimp only at hSw); go_simp; try with_reducible rfl)
    try simp only [Act.put, List.setIfInBounds_toArray, List.set_cons_zero, List.set_cons_succ]
    refine wpAnyH_take (i := 8) (oi := { dst := some 30, op := Op.move (Operand.tmp 29), type := 4, pos := "laws.go:726", after := #[{ on := 7, ground := Ground.data }, { on := 6, ground := Ground.chain }], guard := none }) (v := ?_) rfl (by kernel_rfl) (by kernel_rfl) (by kernel_rfl) (fun _ _ _ h => h) (Or.inl ⟨by rfl, ?_⟩) (by assumption) ?_
    rotate_left
    · (intro w9 hSw; (try dsimp only at hSw); go_simp; try with_reducible rfl)
    try simp only [Act.put, List.setIfInBounds_toArray, List.set_cons_zero, List.set_cons_succ]
    refine wpAnyH_take (i := 9) (oi := { dst := some 31, op := Op.load 27 (Operand.tmp 3), type := 27, pos := "laws.go:726", after := #[{ on := 8, ground := Ground.guard }], guard := some (8, false) }) (v := ?_) rfl (by kernel_rfl) (by kernel_rfl) (by kernel_rfl) (fun _ _ _ h => h) (Or.inl ⟨by rfl, ?_⟩) (by assumption) ?_
    rotate_left
    · (intro w9 hSw; (try dsimp only at hSw); go_simp; try with_reducible rfl)
    try simp only [Act.put, List.setIfInBounds_toArray, List.set_cons_zero, List.set_cons_succ]
    refine wpAnyH_take (i := 10) (oi := { dst := some 32, op := Op.load 30 (Operand.tmp 4), type := 30, pos := "laws.go:726", after := #[{ on := 8, ground := Ground.guard }], guard := some (8, false) }) (v := ?_) rfl (by kernel_rfl) (by kernel_rfl) (by kernel_rfl) (fun _ _ _ h => h) (Or.inl ⟨by rfl, ?_⟩) (by assumption) ?_
    rotate_left
    · (intro w9 hSw; (try dsimp only at hSw); go_simp; try with_reducible rfl)
    try simp only [Act.put, List.setIfInBounds_toArray, List.set_cons_zero, List.set_cons_succ]
    refine wpAnyH_ready (rs := [11]) (by kernel_rfl) (by simp) ?_
    refine AllReadyH.cons (i := 11) (o := { dst := some 33, op := Op.call { callee := Callee.value (Operand.func 12), args := #[Operand.tmp 31, Operand.tmp 32], argTypes := #[27, 30] }, type := 4, pos := "laws.go:726", after := #[{ on := 9, ground := Ground.data }, { on := 10, ground := Ground.data }, { on := 8, ground := Ground.chain }, { on := 8, ground := Ground.guard }], guard := some (8, false) }) rfl (fun K hK => ?_) AllReadyH.nil
    go_simp
    refine ((unhide KA) _ (fut_trans (unhide HK) (S15.bel hHeld))).mono ?_
    rintro e u9 ⟨rfl, kb⟩
    have hq := S15.call hHeld kb
    clear kb hHeld
    refine hK.out _ _ hq (fun hHeld => ?_)
    clear hK K hq
    try simp only [Act.put, List.setIfInBounds_toArray, List.set_cons_zero, List.set_cons_succ]
    refine wpAnyH_take (i := 12) (oi := { dst := some 34, op := Op.unOp UnOp.not 4 (Operand.tmp 33), type := 4, pos := "laws.go:726", after := #[{ on := 11, ground := Ground.data }, { on := 8, ground := Ground.guard }], guard := some (8, false) }) (v := ?_) rfl (by kernel_rfl) (by kernel_rfl) (by kernel_rfl) (fun _ _ _ h => h) (Or.inl ⟨by rfl, ?_⟩) (by assumption) ?_
    rotate_left
    · (intro w9 hSw; (try dsimp only at hSw); go_simp; try with_reducible rfl)
    try simp only [Act.put, List.setIfInBounds_toArray, List.set_cons_zero, List.set_cons_succ]
    refine wpAnyH_take (i := 13) (oi := { dst := some 35, op := Op.pick (Operand.tmp 30) (Operand.const (Value.bool true)) (Operand.tmp 34), type := 4, pos := "laws.go:726", after := #[{ on := 8, ground := Ground.data }, { on := 12, ground := Ground.data }], guard := none }) (v := ?_) rfl (by kernel_rfl) (by kernel_rfl) (by kernel_rfl) (fun _ _ _ h => h) (Or.inl ⟨by rfl, ?_⟩) (by assumption) ?_
    rotate_left
    · (intro w9 hSw; (try dsimp only at hSw); go_simp; try with_reducible rfl)
    try simp only [Act.put, List.setIfInBounds_toArray, List.set_cons_zero, List.set_cons_succ]
    refine wpAnyH_take (i := 14) (oi := { dst := some 36, op := Op.move (Operand.tmp 35), type := 4, pos := "laws.go:726", after := #[{ on := 13, ground := Ground.data }, { on := 11, ground := Ground.chain }], guard := none }) (v := ?_) rfl (by kernel_rfl) (by kernel_rfl) (by kernel_rfl) (fun _ _ _ h => h) (Or.inl ⟨by rfl, ?_⟩) (by assumption) ?_
    rotate_left
    · (intro w9 hSw; (try dsimp only at hSw); go_simp; try with_reducible rfl)
    try simp only [Act.put, List.setIfInBounds_toArray, List.set_cons_zero, List.set_cons_succ]
    refine wpAnyH_take (i := 15) (oi := { dst := some 37, op := Op.load 27 (Operand.tmp 3), type := 27, pos := "laws.go:726", after := #[{ on := 14, ground := Ground.guard }], guard := some (14, false) }) (v := ?_) rfl (by kernel_rfl) (by kernel_rfl) (by kernel_rfl) (fun _ _ _ h => h) (Or.inl ⟨by rfl, ?_⟩) (by assumption) ?_
    rotate_left
    · (intro w9 hSw; (try dsimp only at hSw); go_simp; try with_reducible rfl)
    try simp only [Act.put, List.setIfInBounds_toArray, List.set_cons_zero, List.set_cons_succ]
    refine wpAnyH_take (i := 16) (oi := { dst := some 38, op := Op.load 30 (Operand.tmp 5), type := 30, pos := "laws.go:726", after := #[{ on := 14, ground := Ground.guard }], guard := some (14, false) }) (v := ?_) rfl (by kernel_rfl) (by kernel_rfl) (by kernel_rfl) (fun _ _ _ h => h) (Or.inl ⟨by rfl, ?_⟩) (by assumption) ?_
    rotate_left
    · (intro w9 hSw; (try dsimp only at hSw); go_simp; try with_reducible rfl)
    try simp only [Act.put, List.setIfInBounds_toArray, List.set_cons_zero, List.set_cons_succ]
    refine wpAnyH_ready (rs := [17]) (by kernel_rfl) (by simp) ?_
    refine AllReadyH.cons (i := 17) (o := { dst := some 39, op := Op.call { callee := Callee.value (Operand.func 12), args := #[Operand.tmp 37, Operand.tmp 38], argTypes := #[27, 30] }, type := 4, pos := "laws.go:726", after := #[{ on := 15, ground := Ground.data }, { on := 16, ground := Ground.data }, { on := 14, ground := Ground.chain }, { on := 14, ground := Ground.guard }], guard := some (14, false) }) rfl (fun K hK => ?_) AllReadyH.nil
    go_simp
    refine ((unhide KB) _ (fut_trans (unhide HK) (S15.bel hHeld))).mono ?_
    rintro e u9 ⟨rfl, kb⟩
    have hq := S15.call hHeld kb
    clear kb hHeld
    refine hK.out _ _ hq (fun hHeld => ?_)
    clear hK K hq
    try simp only [Act.put, List.setIfInBounds_toArray, List.set_cons_zero, List.set_cons_succ]
    refine wpAnyH_take (i := 18) (oi := { dst := some 40, op := Op.unOp UnOp.not 4 (Operand.tmp 39), type := 4, pos := "laws.go:726", after := #[{ on := 17, ground := Ground.data }, { on := 14, ground := Ground.guard }], guard := some (14, false) }) (v := ?_) rfl (by kernel_rfl) (by kernel_rfl) (by kernel_rfl) (fun _ _ _ h => h) (Or.inl ⟨by rfl, ?_⟩) (by assumption) ?_
    rotate_left
    · (intro w9 hSw; (try dsimp only at hSw); go_simp; try with_reducible rfl)
    try simp only [Act.put, List.setIfInBounds_toArray, List.set_cons_zero, List.set_cons_succ]
    refine wpAnyH_take (i := 19) (oi := { dst := some 41, op := Op.pick (Operand.tmp 36) (Operand.const (Value.bool true)) (Operand.tmp 40), type := 4, pos := "laws.go:726", after := #[{ on := 14, ground := Ground.data }, { on := 18, ground := Ground.data }], guard := none }) (v := ?_) rfl (by kernel_rfl) (by kernel_rfl) (by kernel_rfl) (fun _ _ _ h => h) (Or.inl ⟨by rfl, ?_⟩) (by assumption) ?_
    rotate_left
    · (intro w9 hSw; (try dsimp only at hSw); go_simp; try with_reducible rfl)
    try simp only [Act.put, List.setIfInBounds_toArray, List.set_cons_zero, List.set_cons_succ]
    refine wpAnyH_take (i := 20) (oi := { dst := some 42, op := Op.move (Operand.tmp 41), type := 4, pos := "laws.go:726", after := #[{ on := 19, ground := Ground.data }, { on := 17, ground := Ground.chain }], guard := none }) (v := ?_) rfl (by kernel_rfl) (by kernel_rfl) (by kernel_rfl) (fun _ _ _ h => h) (Or.inl ⟨by rfl, ?_⟩) (by assumption) ?_
    rotate_left
    · (intro w9 hSw; (try dsimp only at hSw); go_simp; try with_reducible rfl)
    try simp only [Act.put, List.setIfInBounds_toArray, List.set_cons_zero, List.set_cons_succ]
    refine wpAnyH_take (i := 21) (oi := { dst := some 43, op := Op.move (Operand.tmp 6), type := 33, pos := "laws.go:726", after := #[{ on := 20, ground := Ground.guard }], guard := some (20, false) }) (v := ?_) rfl (by kernel_rfl) (by kernel_rfl) (by kernel_rfl) (fun _ _ _ h => h) (Or.inl ⟨by rfl, ?_⟩) (by assumption) ?_
    rotate_left
    · (intro w9 hSw; (try dsimp only at hSw); go_simp; try with_reducible rfl)
    try simp only [Act.put, List.setIfInBounds_toArray, List.set_cons_zero, List.set_cons_succ]
    refine wpAnyH_take (i := 22) (oi := { dst := some 44, op := Op.call { callee := Callee.builtin Builtin.len, args := #[Operand.tmp 43], argTypes := #[33] }, type := 3, pos := "laws.go:726", after := #[{ on := 21, ground := Ground.data }, { on := 20, ground := Ground.guard }], guard := some (20, false) }) (v := ?_) rfl (by kernel_rfl) (by kernel_rfl) (by kernel_rfl) (fun _ _ _ h => h) (Or.inl ⟨by rfl, ?_⟩) (by assumption) ?_
    rotate_left
    · (intro w9 hSw; (try dsimp only at hSw); go_simp; try with_reducible rfl)
    try simp only [Act.put, List.setIfInBounds_toArray, List.set_cons_zero, List.set_cons_succ]
    refine wpAnyH_take (i := 23) (oi := { dst := some 45, op := Op.binOp BinOp.gtr 3 (Operand.tmp 44) (Operand.const (Value.int IntKind.i64 100)) 3, type := 4, pos := "laws.go:726", after := #[{ on := 22, ground := Ground.data }, { on := 20, ground := Ground.guard }], guard := some (20, false) }) (v := ?_) rfl (by kernel_rfl) (by kernel_rfl) (by kernel_rfl) (fun _ _ _ h => h) (Or.inl ⟨by rfl, ?_⟩) (by assumption) ?_
    rotate_left
    · (intro w9 hSw; (try dsimp only at hSw); go_simp; try with_reducible rfl)
    try simp only [Act.put, List.setIfInBounds_toArray, List.set_cons_zero, List.set_cons_succ]
    refine wpAnyH_take (i := 24) (oi := { dst := some 46, op := Op.pick (Operand.tmp 42) (Operand.const (Value.bool true)) (Operand.tmp 45), type := 4, pos := "laws.go:726", after := #[{ on := 20, ground := Ground.data }, { on := 23, ground := Ground.data }], guard := none }) (v := ?_) rfl (by kernel_rfl) (by kernel_rfl) (by kernel_rfl) (fun _ _ _ h => h) (Or.inl ⟨by rfl, ?_⟩) (by assumption) ?_
    rotate_left
    · (intro w9 hSw; (try dsimp only at hSw); go_simp; try with_reducible rfl)
    try simp only [Act.put, List.setIfInBounds_toArray, List.set_cons_zero, List.set_cons_succ]
    refine wpAnyH_done (by kernel_rfl) ?_ _
    have HK2 := hide (fut_trans (unhide HK) (S15.bel hHeld))
    have HJI2 := hide (And.intro ((unhide HJI).1.call (S15.bel hHeld)) ((unhide HJI).2.call (S15.bel hHeld)))
    have HJB2 := hide ((unhide HJB).call (S15.bel hHeld))
    clear hHeld HHS HJI HJB HK
    generalize u9 = ur at HJI2 HJB2 HK2 ⊢
    go_upto_region 6 with fail
    have HJI := HJI2
    have HJB := HJB2
    have HK := HK2
    clear HJI2 HJB2 HK2
    have hs := S15.of ((unhide HBX).1.call (unhide HK)) ((unhide HBX).2.1.call (unhide HK)) ((unhide HBX).2.2.1.call (unhide HK)) (unhide HJB) (unhide HJB) (Below.refl ur.heap.size ur)
    have HHS := hide hs
    clear hs
    have HIA : Hid (∀ w, Below ub.heap.size ub w → Ivs w oa xs ∧ Ivs w ob ys) := fun w k => ⟨((unhide HRW).2.2.2.2.1.call k), ((unhide HRW).2.2.2.2.2.1.call k)⟩
    refine wp_region_held_drew (S := (S15 ur u1.heap.size pj pj (.slice a1 vs.length c1) (.slice a2 fs.length c2) (.slice a3 rs.length c3) (.bool li) (.slice oa xs.length ca) (.slice ob ys.length cb) (.bool lj) (.slice oc xs2.length cc) (.slice od ys2.length cd) (.bool wl) (.slice ox wx.length cx) (.slice oy wy.length cy) (.bool wl) (.slice ox wx.length cx) (.slice oy wy.length cy))) (by kernel_rfl) (S15.drew (unhide HHS)) (fun hHeld => ?_)
    refine wpAnyH_take (i := 0) (oi := { dst := some 47, op := Op.load 30 (Operand.tmp 7), type := 30, pos := "laws.go:727", after := #[], guard := none }) (v := ?_) rfl (by kernel_rfl) (by kernel_rfl) (by kernel_rfl) (fun _ _ _ h => h) (Or.inl ⟨by rfl, ?_⟩) (by assumption) ?_
    rotate_left
    · (intro w9 hSw; (try dsimp only at hSw); go_simp; try with_reducible rfl)
    try simp only [Act.put, List.setIfInBounds_toArray, List.set_cons_zero, List.set_cons_succ]
    refine wpAnyH_take (i := 1) (oi := { dst := some 48, op := Op.load 27 (Operand.tmp 3), type := 27, pos := "laws.go:727", after := #[], guard := none }) (v := ?_) rfl (by kernel_rfl) (by kernel_rfl) (by kernel_rfl) (fun _ _ _ h => h) (Or.inl ⟨by rfl, ?_⟩) (by assumption) ?_
    rotate_left
    · (intro w9 hSw; (try dsimp only at hSw); go_simp; try with_reducible rfl)
    try simp only [Act.put, List.setIfInBounds_toArray, List.set_cons_zero, List.set_cons_succ]
    refine wpAnyH_take (i := 2) (oi := { dst := some 49, op := Op.load 30 (Operand.tmp 4), type := 30, pos := "laws.go:727", after := #[], guard := none }) (v := ?_) rfl (by kernel_rfl) (by kernel_rfl) (by kernel_rfl) (fun _ _ _ h => h) (Or.inl ⟨by rfl, ?_⟩) (by assumption) ?_
    rotate_left
    · (intro w9 hSw; (try dsimp only at hSw); go_simp; try with_reducible rfl)
    try simp only [Act.put, List.setIfInBounds_toArray, List.set_cons_zero, List.set_cons_succ]
    refine wpAnyH_take (i := 3) (oi := { dst := some 50, op := Op.load 30 (Operand.tmp 5), type := 30, pos := "laws.go:727", after := #[], guard := none }) (v := ?_) rfl (by kernel_rfl) (by kernel_rfl) (by kernel_rfl) (fun _ _ _ h => h) (Or.inl ⟨by rfl, ?_⟩) (by assumption) ?_
    rotate_left
    · (intro w9 hSw; (try dsimp only at hSw); go_simp; try with_reducible rfl)
    try simp only [Act.put, List.setIfInBounds_toArray, List.set_cons_zero, List.set_cons_succ]
    refine wpAnyH_take (i := 4) (oi := { dst := some 51, op := Op.move (Operand.tmp 6), type := 33, pos := "laws.go:727", after := #[], guard := none }) (v := ?_) rfl (by kernel_rfl) (by kernel_rfl) (by kernel_rfl) (fun _ _ _ h => h) (Or.inl ⟨by rfl, ?_⟩) (by assumption) ?_
    rotate_left
    · (intro w9 hSw; (try dsimp only at hSw); go_simp; try with_reducible rfl)
    try simp only [Act.put, List.setIfInBounds_toArray, List.set_cons_zero, List.set_cons_succ]
    refine wpAnyH_ready (rs := [5]) (by kernel_rfl) (by simp) ?_
    refine AllReadyH.cons (i := 5) (o := { dst := some 52, op := Op.call { callee := Callee.value (Operand.func 24), args := #[Operand.tmp 48, Operand.tmp 49, Operand.tmp 50, Operand.tmp 51], argTypes := #[27, 30, 30, 33] }, type := 30, pos := "laws.go:727", after := #[{ on := 1, ground := Ground.data }, { on := 2, ground := Ground.data }, { on := 3, ground := Ground.data }, { on := 4, ground := Ground.data }], guard := none }) rfl (fun K hK => ?_) AllReadyH.nil
    go_simp
    refine ((unhide KWS) _ (fut_trans (unhide HK) (S15.bel hHeld))).mono ?_
    rintro e u9 ⟨o1, n1, o2, n2, rfl, hre, kb⟩
    have HI := hide (hre.ivs (unhide LW))
    clear hre
    have hq := S15.call hHeld kb
    clear kb hHeld
    refine hK.out _ _ hq (fun hHeld => ?_)
    clear hK K hq
    try simp only [Act.put, List.setIfInBounds_toArray, List.set_cons_zero, List.set_cons_succ]
    refine wpAnyH_ready (rs := [6]) (by kernel_rfl) (by simp) ?_
    refine AllReadyH.cons (i := 6) (o := { dst := some 53, op := Op.call { callee := Callee.value (Operand.func 17), args := #[Operand.tmp 47, Operand.tmp 52], argTypes := #[30, 30] }, type := 4, pos := "laws.go:727", after := #[{ on := 0, ground := Ground.data }, { on := 5, ground := Ground.data }, { on := 5, ground := Ground.chain }], guard := none }) rfl (fun K hK => ?_) AllReadyH.nil
    go_simp
    refine (same_again (And.intro ((unhide HJI).1.call (S15.bel hHeld)) ((unhide HJI).2.call (S15.bel hHeld))) (unhide HI)).mono ?_
    rintro e u9 ⟨rfl, kb⟩
    clear HI
    have hq := S15.call hHeld kb
    clear kb hHeld
    refine hK.out _ _ hq (fun hHeld => ?_)
    clear hK K hq
    try simp only [Act.put, List.setIfInBounds_toArray, List.set_cons_zero, List.set_cons_succ]
    refine wpAnyH_take (i := 7) (oi := { dst := some 2, op := Op.assign (Operand.tmp 53), type := 4, pos := "laws.go:727", after := #[{ on := 6, ground := Ground.data }, { on := 6, ground := Ground.chain }, { on := 0, ground := Ground.phase }, { on := 1, ground := Ground.phase }, { on := 2, ground := Ground.phase }, { on := 3, ground := Ground.phase }, { on := 4, ground := Ground.phase }, { on := 5, ground := Ground.phase }, { on := 6, ground := Ground.phase }], guard := none }) (v := ?_) rfl (by kernel_rfl) (by kernel_rfl) (by kernel_rfl) (fun _ _ _ h => h) (Or.inl ⟨by rfl, ?_⟩) (by assumption) ?_
    rotate_left
    · (intro w9 hSw; (try dsimp only at hSw); go_simp; try with_reducible rfl)
    try simp only [Act.put, List.setIfInBounds_toArray, List.set_cons_zero, List.set_cons_succ]
    refine wpAnyH_done (by kernel_rfl) ?_ _
    have HB := hide ((unhide HB).trans ((fut_trans (unhide HK) (S15.bel hHeld)).mono (unhide HB).size))
    clear hHeld
    go_wp2
    go_ret
    exact ⟨rfl, unhide HB⟩
end Go.Proofs.YtoipaejbkcdioaaDoor
