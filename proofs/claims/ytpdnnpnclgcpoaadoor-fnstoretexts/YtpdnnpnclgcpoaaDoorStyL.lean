/- Unlike stores have unlike texts, unlike bounds, too: the walk of the law. -/
import Derived.Test.YtpdnnpnclgcpoaaDoorNaZ
import Derived.Test.YtpdnnpnclgcpoaaDoorStyK
namespace Go.Proofs.YtpdnnpnclgcpoaaDoor
open Go.RowKit Go.Iv
set_option linter.unusedSimpArgs false
set_option linter.unusedVariables false

set_option maxRecDepth 20000 in
set_option maxHeartbeats 32000000 in
theorem lawFnStoreTexts (a0 : Option Addr) (len0 cap0 : Nat) (z0 : List Int) (m0 : Option Addr) (len1 cap1 : Nat) (z1 : List Int) (w : World) (hw : KW w ∧ P10 w) (w0 : IsRow .u8 w a0 len0 cap0 z0) (w1 : IsRow .u8 w m0 len1 cap1 z1) :
  Calls Tryd.prog 5 #[.slice a0 len0 cap0, .slice m0 len1 cap1] w fun e w' => e = .returned (.bool true) ∧ Below w.heap.size w w' := by
 have HW := hide hw
 clear hw
 by_cases hbig : 1048576 < len0
 ·have hm := row_len w0
  clear w0 w1
  go_enter Tryd.func5, Tryd.ntmps5
  go_wp2_with fail
  refine (big_yes _ _ _ hbig hm _).mono ?_
  rintro e w' ⟨rfl, rfl⟩
  go_wp2
  go_ret
  exact ⟨rfl, Below.refl _ _⟩
 have hs : len0 ≤ 1048576 := by omega
 have CD := hide (code_of_row w0 hs)
 clear w0 hbig
 by_cases hbig : 1048576 < len1
 ·have hm := row_len w1
  clear w1
  go_enter Tryd.func5, Tryd.ntmps5
  go_wp2_with fail
  refine (big_c _ _ _ hs _).mono ?_
  rintro e w' ⟨rfl, rfl⟩
  go_wp2_with fail
  refine (big_yes _ _ _ hbig hm _).mono ?_
  rintro e w' ⟨rfl, rfl⟩
  go_wp2
  go_ret
  exact ⟨rfl, Below.refl _ _⟩
 have hs1 : len1 ≤ 1048576 := by omega
 have CM := hide (code_of_row w1 hs1)
 clear w1 hbig
 go_enter Tryd.func5, Tryd.ntmps5
 go_wp2_with fail
 refine (big_c _ _ _ hs _).mono ?_
 rintro e w' ⟨rfl, hw'⟩
 subst w'
 go_wp2_with fail
 refine (big_c _ _ _ hs1 _).mono ?_
 rintro e w' ⟨rfl, hw'⟩
 subst w'
 go_wp2_with fail
 refine (DrawEnvLeq_c _ _ _ _ (unhide CD)).mono ?_
 rintro e u1 ⟨a1, a2, a3, c1, c2, c3, vs, fs, rs, li, oa, ca, ob, cb, xs, ys, lj, oc, cc, od, cd, xs2, ys2, rfl, s1, s2, s3, hz, ⟨i1, i2⟩, ⟨i3, i4⟩, ⟨n1, n2, n3, n4⟩, _, kb⟩
 have HRW := hide (show OrR u1 a1 a2 a3 vs fs rs oa ob xs ys oc od xs2 ys2 from ⟨(unhide HW).1.call kb, s1, s2, s3, i1, i2, i3, i4⟩)
 have HP := hide ((unhide HW).2.call kb)
 have HZ := hide hz
 have HB := hide kb
 have HIN := hide (And.intro n1 n2)
 have HIM := hide (And.intro n3 n4)
 clear s1 s2 s3 hz i1 i2 i3 i4 kb n1 n2 n3 n4 HW
 have HBX := hide (B3.new u1 (.slice a1 vs.length c1) (.slice a2 fs.length c2) (.slice a3 rs.length c3) (.bool li) (.slice oa xs.length ca) (.slice ob ys.length cb) (.bool lj) (.slice oc xs2.length cc) (.slice od ys2.length cd) 27 43 43)
 have ka := (((Below.refl _ u1).alloc (Nat.le_refl _) (Obj.cells #[.slice a1 vs.length c1, .slice a2 fs.length c2, .slice a3 rs.length c3] 27)).alloc (by simp) (Obj.cells #[.bool li, .slice oa xs.length ca, .slice ob ys.length cb] 43)).alloc (by simp; omega) (Obj.cells #[.bool lj, .slice oc xs2.length cc, .slice od ys2.length cd] 43)
 have HRW := hide ((unhide HRW).call ka)
 have HP := hide ((unhide HP).call ka)
 have HB := hide ((unhide HB).trans (ka.mono (unhide HB).size))
 go_upto_region 4 with fail
 generalize ((u1.alloc (Obj.cells #[.slice a1 vs.length c1, .slice a2 fs.length c2, .slice a3 rs.length c3] 27)).alloc (Obj.cells #[.bool li, .slice oa xs.length ca, .slice ob ys.length cb] 43)).alloc (Obj.cells #[.bool lj, .slice oc xs2.length cc, .slice od ys2.length cd] 43) = u2 at HBX HRW HP HB ⊢
 clear ka
 go_wp2_with fail
 refine (DrawStoreText_c _ _ _ _ ((unhide CD).below (unhide HB))).mono ?_
 rintro e u3 ⟨f1, f2, f3, g1, g2, g3, vt, ft, rt, q1, q2, q3, k1, k2, k3, it, bt, jt, rfl, s1, s2, s3, hz, tf, tg, kb⟩
 have HRT := hide (show Strs u3 f1 vt ∧ Strs u3 f2 ft ∧ Arrs u3 f3 rt ∧ StV u3 q1 q2 q3 it bt jt from ⟨s1, s2, s3, tf.1.1, tf.2.1.1, tf.mats⟩)
 have HZT := hide hz
 have HTG := hide (show InI it ∧ InJ jt from ⟨fun i h => tg.1 i h, fun k h i h2 => tg.2 k h i h2⟩)
 have HRW := hide ((unhide HRW).call kb)
 have HP := hide ((unhide HP).call kb)
 have HBX := hide ((unhide HBX).call kb)
 have HB := hide ((unhide HB).trans (kb.mono (unhide HB).size))
 clear s1 s2 s3 hz tf tg kb
 have HBT := hide (B2.new u3 (.slice f1 vt.length g1) (.slice f2 ft.length g2) (.slice f3 rt.length g3) (.slice q1 it.length k1) (.slice q2 bt.length k2) (.slice q3 jt.length k3) 27 35)
 have ka := ((Below.refl _ u3).alloc (Nat.le_refl _) (Obj.cells #[.slice f1 vt.length g1, .slice f2 ft.length g2, .slice f3 rt.length g3] 27)).alloc (by simp) (Obj.cells #[.slice q1 it.length k1, .slice q2 bt.length k2, .slice q3 jt.length k3] 35)
 have HRW := hide ((unhide HRW).call ka)
 have HP := hide ((unhide HP).call ka)
 have HBX := hide ((unhide HBX).call ka)
 have HRT := hide (show Strs _ f1 vt ∧ Strs _ f2 ft ∧ Arrs _ f3 rt ∧ StV _ q1 q2 q3 it bt jt from ⟨(unhide HRT).1.call ka, (unhide HRT).2.1.call ka, (unhide HRT).2.2.1.call ka, (unhide HRT).2.2.2.call ka⟩)
 have HB := hide ((unhide HB).trans (ka.mono (unhide HB).size))
 go_upto_region 5 with fail
 generalize (u3.alloc (Obj.cells #[.slice f1 vt.length g1, .slice f2 ft.length g2, .slice f3 rt.length g3] 27)).alloc (Obj.cells #[.slice q1 it.length k1, .slice q2 bt.length k2, .slice q3 jt.length k3] 35) = ub at HBX HBT HRW HP HRT HB ⊢
 clear ka
 have KIE : Hid (∀ w, Below ub.heap.size ub w → Calls Tryd.prog 25 #[.agg #[.slice a1 vs.length c1, .slice a2 fs.length c2, .slice a3 rs.length c3], .agg #[.bool li, .slice oa xs.length ca, .slice ob ys.length cb]] w fun e w' => e = .returned (.string (if envB vs fs rs li xs ys = true then envT li vs rs xs ys else ⟨#[]⟩)) ∧ Below w.heap.size w w') := fun w k => by
  have q := iEnvText_c a1 a2 a3 c1 c2 c3 vs fs rs li oa ob ca cb xs ys w ((unhide HRW).1.call k) ((unhide HP).call k) ((unhide HRW).2.1.call k) ((unhide HRW).2.2.1.call k) ((unhide HRW).2.2.2.1.call k) (unhide HZ) ((unhide HRW).2.2.2.2.1.call k) ((unhide HRW).2.2.2.2.2.1.call k) (unhide HIN).1.toP (unhide HIN).2.toP
  exact q
 have KSE : Hid (∀ w, Below ub.heap.size ub w → Calls Tryd.prog 26 #[.agg #[.slice a1 vs.length c1, .slice a2 fs.length c2, .slice a3 rs.length c3], .agg #[.bool li, .slice oa xs.length ca, .slice ob ys.length cb]] w fun e w' => e = .returned (.string (if envB vs fs rs li xs ys = true then envT li vs rs xs ys else ⟨#[]⟩)) ∧ Below w.heap.size w w') := fun w k => by
  have q := sEnvText_c a1 a2 a3 c1 c2 c3 vs fs rs li oa ob ca cb xs ys w ((unhide HRW).2.1.call k) ((unhide HRW).2.2.1.call k) ((unhide HRW).2.2.2.1.call k) (unhide HZ) ((unhide HRW).2.2.2.2.1.call k) ((unhide HRW).2.2.2.2.2.1.call k) (unhide HIN).1.toP (unhide HIN).2.toP
  exact q
 have KIS : Hid (∀ w, Below ub.heap.size ub w → Calls Tryd.prog 27 #[.agg #[.slice f1 vt.length g1, .slice f2 ft.length g2, .slice f3 rt.length g3], .agg #[.slice q1 it.length k1, .slice q2 bt.length k2, .slice q3 jt.length k3]] w fun e w' => e = .returned (.string (if storeB vt ft rt it bt jt = true then jnS (stW vt ft rt it bt jt) else ⟨#[]⟩)) ∧ Below w.heap.size w w') := fun w k => by
  have q := iStoreText_c f1 f2 f3 g1 g2 g3 vt ft rt q1 q2 q3 k1 k2 k3 it bt jt w ((unhide HRW).1.call k) ((unhide HP).call k) ((unhide HRT).1.call k) ((unhide HRT).2.1.call k) ((unhide HRT).2.2.1.call k) (unhide HZT) ((unhide HRT).2.2.2.1.call k) ((unhide HRT).2.2.2.2.1.call k) ((unhide HRT).2.2.2.2.2.call k) (unhide HTG).1 (unhide HTG).2
  exact q
 have KSS : Hid (∀ w, Below ub.heap.size ub w → Calls Tryd.prog 28 #[.agg #[.slice f1 vt.length g1, .slice f2 ft.length g2, .slice f3 rt.length g3], .agg #[.slice q1 it.length k1, .slice q2 bt.length k2, .slice q3 jt.length k3]] w fun e w' => e = .returned (.string (if storeB vt ft rt it bt jt = true then jnS (stW vt ft rt it bt jt) else ⟨#[]⟩)) ∧ Below w.heap.size w w') := fun w k => by
  have q := sStoreText_c f1 f2 f3 g1 g2 g3 vt ft rt q1 q2 q3 k1 k2 k3 it bt jt w ((unhide HRT).1.call k) ((unhide HRT).2.1.call k) ((unhide HRT).2.2.1.call k) (unhide HZT) ((unhide HRT).2.2.2.1.call k) ((unhide HRT).2.2.2.2.1.call k) ((unhide HRT).2.2.2.2.2.call k) (unhide HTG).1 (unhide HTG).2
  exact q
 have KA : Hid (∀ w, Below ub.heap.size ub w → Calls Tryd.prog 29 #[.agg #[.slice a1 vs.length c1, .slice a2 fs.length c2, .slice a3 rs.length c3], .agg #[.bool li, .slice oa xs.length ca, .slice ob ys.length cb]] w fun e w' => e = .returned (.bool (envB vs fs rs li xs ys)) ∧ Below w.heap.size w w') := fun w k => by
  have q := sEnvOk_c a1 a2 a3 c1 c2 c3 vs fs rs li oa ob ca cb xs ys w ((unhide HRW).2.1.call k) ((unhide HRW).2.2.1.call k) ((unhide HRW).2.2.2.1.call k) (unhide HZ) ((unhide HRW).2.2.2.2.1.call k) ((unhide HRW).2.2.2.2.2.1.call k)
  exact q
 have KB : Hid (∀ w, Below ub.heap.size ub w → Calls Tryd.prog 29 #[.agg #[.slice a1 vs.length c1, .slice a2 fs.length c2, .slice a3 rs.length c3], .agg #[.bool lj, .slice oc xs2.length cc, .slice od ys2.length cd]] w fun e w' => e = .returned (.bool (envB vs fs rs lj xs2 ys2)) ∧ Below w.heap.size w w') := fun w k => by
  have q := sEnvOk_c a1 a2 a3 c1 c2 c3 vs fs rs lj oc od cc cd xs2 ys2 w ((unhide HRW).2.1.call k) ((unhide HRW).2.2.1.call k) ((unhide HRW).2.2.2.1.call k) (unhide HZ) ((unhide HRW).2.2.2.2.2.2.1.call k) ((unhide HRW).2.2.2.2.2.2.2.call k)
  exact q
 obtain ⟨tE, hE⟩ : ∃ r, (if envB vs fs rs li xs ys = true then envT li vs rs xs ys else ⟨#[]⟩) = r := ⟨_, rfl⟩
 obtain ⟨tS, hS⟩ : ∃ r, (if storeB vt ft rt it bt jt = true then jnS (stW vt ft rt it bt jt) else ⟨#[]⟩) = r := ⟨_, rfl⟩
 rw [hE] at KIE KSE
 rw [hS] at KIS KSS
 clear hE hS
 obtain ⟨A, hA⟩ : ∃ A, envB vs fs rs li xs ys = A := ⟨_, rfl⟩
 obtain ⟨B, hB⟩ : ∃ B, envB vs fs rs lj xs2 ys2 = B := ⟨_, rfl⟩
 rw [hA] at KA
 rw [hB] at KB
 have HA := hide hA
 have HBB := hide hB
 clear hA hB
 cases A
 ·skip
  refine wp_region_held_drew (S := (S15 ub u1.heap.size u3.heap.size (u3.heap.size + 1) (.slice a1 vs.length c1) (.slice a2 fs.length c2) (.slice a3 rs.length c3) (.bool li) (.slice oa xs.length ca) (.slice ob ys.length cb) (.bool lj) (.slice oc xs2.length cc) (.slice od ys2.length cd) (.slice f1 vt.length g1) (.slice f2 ft.length g2) (.slice f3 rt.length g3) (.slice q1 it.length k1) (.slice q2 bt.length k2) (.slice q3 jt.length k3))) (by kernel_rfl) (S15.drew (S15.of (unhide HBX).1 (unhide HBX).2.1 (unhide HBX).2.2.1 (unhide HBT).1 (unhide HBT).2.1 (Below.refl _ ub))) (fun hHeld => ?_)
  refine tk 0 (oi := ⟨some 29, Op.load 27 (Operand.tmp 5), 27, _, _, none⟩) (v := ?_) rfl ?_ ?_
  rotate_left
  ·(intro w9 hSw; (try dsimp only at hSw); go_simp; try with_reducible rfl)
  try simp only [Act.put, sa, sb, sc]
  refine tk 1 (oi := ⟨some 30, Op.load 43 (Operand.tmp 6), 43, _, _, none⟩) (v := ?_) rfl ?_ ?_
  rotate_left
  ·(intro w9 hSw; (try dsimp only at hSw); go_simp; try with_reducible rfl)
  try simp only [Act.put, sa, sb, sc]
  refine tk 3 (oi := ⟨some 32, Op.load 27 (Operand.tmp 5), 27, _, _, none⟩) (v := ?_) rfl ?_ ?_
  rotate_left
  ·(intro w9 hSw; (try dsimp only at hSw); go_simp; try with_reducible rfl)
  try simp only [Act.put, sa, sb, sc]
  refine tk 4 (oi := ⟨some 33, Op.load 43 (Operand.tmp 6), 43, _, _, none⟩) (v := ?_) rfl ?_ ?_
  rotate_left
  ·(intro w9 hSw; (try dsimp only at hSw); go_simp; try with_reducible rfl)
  try simp only [Act.put, sa, sb, sc]
  refine wpAnyH_ready (rs := [2]) (by kernel_rfl) (by simp) ?_
  refine AllReadyH.cons (i := 2) (o := ⟨some 31, Op.call { callee := Callee.value (Operand.func 25), args := #[Operand.tmp 29, Operand.tmp 30], argTypes := #[27, 43] }, 9, _, _, none⟩) rfl (fun K hK => ?_) AllReadyH.nil
  go_simp
  refine ((unhide KIE) _ (S15.bel hHeld)).mono ?_
  rintro e u9 ⟨rfl, kb⟩
  have hq := S15.call hHeld kb
  clear kb hHeld
  refine hK.out _ _ hq (fun hHeld => ?_)
  clear hK K hq
  try simp only [Act.put, sa, sb, sc]
  refine wpAnyH_ready (rs := [5]) (by kernel_rfl) (by simp) ?_
  refine AllReadyH.cons (i := 5) (o := ⟨some 34, Op.call { callee := Callee.value (Operand.func 26), args := #[Operand.tmp 32, Operand.tmp 33], argTypes := #[27, 43] }, 9, _, _, none⟩) rfl (fun K hK => ?_) AllReadyH.nil
  go_simp
  refine ((unhide KSE) _ (S15.bel hHeld)).mono ?_
  rintro e u9 ⟨rfl, kb⟩
  have hq := S15.call hHeld kb
  clear kb hHeld
  refine hK.out _ _ hq (fun hHeld => ?_)
  clear hK K hq
  try simp only [Act.put, sa, sb, sc]
  refine tk 6 (oi := ⟨some 35, Op.binOp BinOp.neq 9 (Operand.tmp 31) (Operand.tmp 34) 9, 4, _, _, none⟩) (v := .bool false) rfl ?_ ?_
  ·(intro w9 hSw; (try dsimp only at hSw); go_simp; first | done | (with_reducible rfl) | (simp; done) | trace_state)
  try simp only [Act.put, sa, sb, sc]
  refine tk 7 (oi := ⟨some 36, Op.move (Operand.tmp 35), 4, _, _, none⟩) (v := ?_) rfl ?_ ?_
  rotate_left
  ·(intro w9 hSw; (try dsimp only at hSw); go_simp; try with_reducible rfl)
  try simp only [Act.put, sa, sb, sc]
  refine tk 8 (oi := ⟨some 37, Op.load 27 (Operand.tmp 8), 27, _, _, some (7, false)⟩) (v := ?_) rfl ?_ ?_
  rotate_left
  ·(intro w9 hSw; (try dsimp only at hSw); go_simp; try with_reducible rfl)
  try simp only [Act.put, sa, sb, sc]
  refine tk 9 (oi := ⟨some 38, Op.load 35 (Operand.tmp 9), 35, _, _, some (7, false)⟩) (v := ?_) rfl ?_ ?_
  rotate_left
  ·(intro w9 hSw; (try dsimp only at hSw); go_simp; try with_reducible rfl)
  try simp only [Act.put, sa, sb, sc]
  refine tk 11 (oi := ⟨some 40, Op.load 27 (Operand.tmp 8), 27, _, _, some (7, false)⟩) (v := ?_) rfl ?_ ?_
  rotate_left
  ·(intro w9 hSw; (try dsimp only at hSw); go_simp; try with_reducible rfl)
  try simp only [Act.put, sa, sb, sc]
  refine tk 12 (oi := ⟨some 41, Op.load 35 (Operand.tmp 9), 35, _, _, some (7, false)⟩) (v := ?_) rfl ?_ ?_
  rotate_left
  ·(intro w9 hSw; (try dsimp only at hSw); go_simp; try with_reducible rfl)
  try simp only [Act.put, sa, sb, sc]
  refine wpAnyH_ready (rs := [10]) (by kernel_rfl) (by simp) ?_
  refine AllReadyH.cons (i := 10) (o := ⟨some 39, Op.call { callee := Callee.value (Operand.func 27), args := #[Operand.tmp 37, Operand.tmp 38], argTypes := #[27, 35] }, 9, _, _, some (7, false)⟩) rfl (fun K hK => ?_) AllReadyH.nil
  go_simp
  refine ((unhide KIS) _ (S15.bel hHeld)).mono ?_
  rintro e u9 ⟨rfl, kb⟩
  have hq := S15.call hHeld kb
  clear kb hHeld
  refine hK.out _ _ hq (fun hHeld => ?_)
  clear hK K hq
  try simp only [Act.put, sa, sb, sc]
  refine wpAnyH_ready (rs := [13]) (by kernel_rfl) (by simp) ?_
  refine AllReadyH.cons (i := 13) (o := ⟨some 42, Op.call { callee := Callee.value (Operand.func 28), args := #[Operand.tmp 40, Operand.tmp 41], argTypes := #[27, 35] }, 9, _, _, some (7, false)⟩) rfl (fun K hK => ?_) AllReadyH.nil
  go_simp
  refine ((unhide KSS) _ (S15.bel hHeld)).mono ?_
  rintro e u9 ⟨rfl, kb⟩
  have hq := S15.call hHeld kb
  clear kb hHeld
  refine hK.out _ _ hq (fun hHeld => ?_)
  clear hK K hq
  try simp only [Act.put, sa, sb, sc]
  refine tk 14 (oi := ⟨some 43, Op.binOp BinOp.neq 9 (Operand.tmp 39) (Operand.tmp 42) 9, 4, _, _, some (7, false)⟩) (v := .bool false) rfl ?_ ?_
  ·(intro w9 hSw; (try dsimp only at hSw); go_simp; first | done | (with_reducible rfl) | (simp; done) | trace_state)
  try simp only [Act.put, sa, sb, sc]
  refine tk 15 (oi := ⟨some 44, Op.pick (Operand.tmp 36) (Operand.const (Value.bool true)) (Operand.tmp 43), 4, _, _, none⟩) (v := ?_) rfl ?_ ?_
  rotate_left
  ·(intro w9 hSw; (try dsimp only at hSw); go_simp; try with_reducible rfl)
  try simp only [Act.put, sa, sb, sc]
  refine tk 16 (oi := ⟨some 45, Op.move (Operand.tmp 44), 4, _, _, none⟩) (v := ?_) rfl ?_ ?_
  rotate_left
  ·(intro w9 hSw; (try dsimp only at hSw); go_simp; try with_reducible rfl)
  try simp only [Act.put, sa, sb, sc]
  refine tk 17 (oi := ⟨some 46, Op.load 27 (Operand.tmp 5), 27, _, _, some (16, false)⟩) (v := ?_) rfl ?_ ?_
  rotate_left
  ·(intro w9 hSw; (try dsimp only at hSw); go_simp; try with_reducible rfl)
  try simp only [Act.put, sa, sb, sc]
  refine tk 18 (oi := ⟨some 47, Op.load 43 (Operand.tmp 6), 43, _, _, some (16, false)⟩) (v := ?_) rfl ?_ ?_
  rotate_left
  ·(intro w9 hSw; (try dsimp only at hSw); go_simp; try with_reducible rfl)
  try simp only [Act.put, sa, sb, sc]
  refine wpAnyH_ready (rs := [19]) (by kernel_rfl) (by simp) ?_
  refine AllReadyH.cons (i := 19) (o := ⟨some 48, Op.call { callee := Callee.value (Operand.func 29), args := #[Operand.tmp 46, Operand.tmp 47], argTypes := #[27, 43] }, 4, _, _, some (16, false)⟩) rfl (fun K hK => ?_) AllReadyH.nil
  go_simp
  refine ((unhide KA) _ (S15.bel hHeld)).mono ?_
  rintro e u9 ⟨rfl, kb⟩
  have hq := S15.call hHeld kb
  clear kb hHeld
  refine hK.out _ _ hq (fun hHeld => ?_)
  clear hK K hq
  try simp only [Act.put, sa, sb, sc]
  refine tk 20 (oi := ⟨some 49, Op.unOp UnOp.not 4 (Operand.tmp 48), 4, _, _, some (16, false)⟩) (v := ?_) rfl ?_ ?_
  rotate_left
  ·(intro w9 hSw; (try dsimp only at hSw); go_simp; try with_reducible rfl)
  try simp only [Act.put, sa, sb, sc]
  refine tk 21 (oi := ⟨some 50, Op.pick (Operand.tmp 45) (Operand.const (Value.bool true)) (Operand.tmp 49), 4, _, _, none⟩) (v := ?_) rfl ?_ ?_
  rotate_left
  ·(intro w9 hSw; (try dsimp only at hSw); go_simp; try with_reducible rfl)
  try simp only [Act.put, sa, sb, sc]
  refine tk 22 (oi := ⟨some 51, Op.move (Operand.tmp 50), 4, _, _, none⟩) (v := ?_) rfl ?_ ?_
  rotate_left
  ·(intro w9 hSw; (try dsimp only at hSw); go_simp; try with_reducible rfl)
  try simp only [Act.put, sa, sb, sc]
  refine wpAnyH_take (i := 23) (oi := ⟨some 52, Op.load 27 (Operand.tmp 5), 27, _, _, some (22, false)⟩) (v := undef) rfl (by kernel_rfl) (by kernel_rfl) (by kernel_rfl) (fun _ _ _ h => h) (Or.inr ⟨by rfl, rfl⟩) (by assumption) ?_
  try simp only [Act.put, sa, sb, sc]
  refine wpAnyH_take (i := 24) (oi := ⟨some 53, Op.load 43 (Operand.tmp 7), 43, _, _, some (22, false)⟩) (v := undef) rfl (by kernel_rfl) (by kernel_rfl) (by kernel_rfl) (fun _ _ _ h => h) (Or.inr ⟨by rfl, rfl⟩) (by assumption) ?_
  try simp only [Act.put, sa, sb, sc]
  refine wpAnyH_take (i := 25) (oi := ⟨some 54, Op.call { callee := Callee.value (Operand.func 29), args := #[Operand.tmp 52, Operand.tmp 53], argTypes := #[27, 43] }, 4, _, _, some (22, false)⟩) (v := undef) rfl (by kernel_rfl) (by kernel_rfl) (by kernel_rfl) (fun _ _ _ h => h) (Or.inr ⟨by rfl, rfl⟩) (by assumption) ?_
  try simp only [Act.put, sa, sb, sc]
  refine wpAnyH_take (i := 26) (oi := ⟨some 55, Op.unOp UnOp.not 4 (Operand.tmp 54), 4, _, _, some (22, false)⟩) (v := undef) rfl (by kernel_rfl) (by kernel_rfl) (by kernel_rfl) (fun _ _ _ h => h) (Or.inr ⟨by rfl, rfl⟩) (by assumption) ?_
  try simp only [Act.put, sa, sb, sc]
  refine tk 27 (oi := ⟨some 56, Op.pick (Operand.tmp 51) (Operand.const (Value.bool true)) (Operand.tmp 55), 4, _, _, none⟩) (v := ?_) rfl ?_ ?_
  rotate_left
  ·(intro w9 hSw; (try dsimp only at hSw); go_simp; try with_reducible rfl)
  try simp only [Act.put, sa, sb, sc]
  refine tk 28 (oi := ⟨some 57, Op.move (Operand.tmp 56), 4, _, _, none⟩) (v := ?_) rfl ?_ ?_
  rotate_left
  ·(intro w9 hSw; (try dsimp only at hSw); go_simp; try with_reducible rfl)
  try simp only [Act.put, sa, sb, sc]
  refine wpAnyH_take (i := 29) (oi := ⟨some 58, Op.fieldAddr 43 (Operand.tmp 6) 0, 0, _, _, some (28, false)⟩) (v := undef) rfl (by kernel_rfl) (by kernel_rfl) (by kernel_rfl) (fun _ _ _ h => h) (Or.inr ⟨by rfl, rfl⟩) (by assumption) ?_
  try simp only [Act.put, sa, sb, sc]
  refine wpAnyH_take (i := 30) (oi := ⟨some 59, Op.load 4 (Operand.tmp 58), 4, _, _, some (28, false)⟩) (v := undef) rfl (by kernel_rfl) (by kernel_rfl) (by kernel_rfl) (fun _ _ _ h => h) (Or.inr ⟨by rfl, rfl⟩) (by assumption) ?_
  try simp only [Act.put, sa, sb, sc]
  refine wpAnyH_take (i := 31) (oi := ⟨some 60, Op.unOp UnOp.not 4 (Operand.tmp 59), 4, _, _, some (28, false)⟩) (v := undef) rfl (by kernel_rfl) (by kernel_rfl) (by kernel_rfl) (fun _ _ _ h => h) (Or.inr ⟨by rfl, rfl⟩) (by assumption) ?_
  try simp only [Act.put, sa, sb, sc]
  refine tk 32 (oi := ⟨some 61, Op.pick (Operand.tmp 57) (Operand.const (Value.bool true)) (Operand.tmp 60), 4, _, _, none⟩) (v := ?_) rfl ?_ ?_
  rotate_left
  ·(intro w9 hSw; (try dsimp only at hSw); go_simp; try with_reducible rfl)
  try simp only [Act.put, sa, sb, sc]
  refine wpAnyH_done (by kernel_rfl) ?_ _
  have HK := hide (S15.bel hHeld)
  clear hHeld
  generalize u9 = ur at HK ⊢
  go_upto_region 6 with fail
  refine wp_region_held_drew (S := (S15 ur u1.heap.size u3.heap.size (u3.heap.size + 1) (.slice a1 vs.length c1) (.slice a2 fs.length c2) (.slice a3 rs.length c3) (.bool li) (.slice oa xs.length ca) (.slice ob ys.length cb) (.bool lj) (.slice oc xs2.length cc) (.slice od ys2.length cd) (.slice f1 vt.length g1) (.slice f2 ft.length g2) (.slice f3 rt.length g3) (.slice q1 it.length k1) (.slice q2 bt.length k2) (.slice q3 jt.length k3))) (by kernel_rfl) (S15.drew (S15.of ((unhide HBX).1.call (unhide HK)) ((unhide HBX).2.1.call (unhide HK)) ((unhide HBX).2.2.1.call (unhide HK)) ((unhide HBT).1.call (unhide HK)) ((unhide HBT).2.1.call (unhide HK)) (Below.refl _ ur))) (fun hHeld => ?_)
  refine tk 0 (oi := ⟨some 62, Op.load 27 (Operand.tmp 5), 27, _, _, none⟩) (v := ?_) rfl ?_ ?_
  rotate_left
  ·(intro w9 hSw; (try dsimp only at hSw); go_simp; try with_reducible rfl)
  try simp only [Act.put, sa, sb, sc]
  refine tk 1 (oi := ⟨some 63, Op.load 43 (Operand.tmp 6), 43, _, _, none⟩) (v := ?_) rfl ?_ ?_
  rotate_left
  ·(intro w9 hSw; (try dsimp only at hSw); go_simp; try with_reducible rfl)
  try simp only [Act.put, sa, sb, sc]
  refine tk 3 (oi := ⟨some 65, Op.load 27 (Operand.tmp 5), 27, _, _, none⟩) (v := ?_) rfl ?_ ?_
  rotate_left
  ·(intro w9 hSw; (try dsimp only at hSw); go_simp; try with_reducible rfl)
  try simp only [Act.put, sa, sb, sc]
  refine tk 4 (oi := ⟨some 66, Op.load 43 (Operand.tmp 6), 43, _, _, none⟩) (v := ?_) rfl ?_ ?_
  rotate_left
  ·(intro w9 hSw; (try dsimp only at hSw); go_simp; try with_reducible rfl)
  try simp only [Act.put, sa, sb, sc]
  refine wpAnyH_ready (rs := [2]) (by kernel_rfl) (by simp) ?_
  refine AllReadyH.cons (i := 2) (o := ⟨some 64, Op.call { callee := Callee.value (Operand.func 25), args := #[Operand.tmp 62, Operand.tmp 63], argTypes := #[27, 43] }, 9, _, _, none⟩) rfl (fun K hK => ?_) AllReadyH.nil
  go_simp
  refine ((unhide KIE) _ (futS (unhide HK) (S15.bel hHeld))).mono ?_
  rintro e u9 ⟨rfl, kb⟩
  have hq := S15.call hHeld kb
  clear kb hHeld
  refine hK.out _ _ hq (fun hHeld => ?_)
  clear hK K hq
  try simp only [Act.put, sa, sb, sc]
  refine wpAnyH_ready (rs := [5]) (by kernel_rfl) (by simp) ?_
  refine AllReadyH.cons (i := 5) (o := ⟨some 67, Op.call { callee := Callee.value (Operand.func 26), args := #[Operand.tmp 65, Operand.tmp 66], argTypes := #[27, 43] }, 9, _, _, none⟩) rfl (fun K hK => ?_) AllReadyH.nil
  go_simp
  refine ((unhide KSE) _ (futS (unhide HK) (S15.bel hHeld))).mono ?_
  rintro e u9 ⟨rfl, kb⟩
  have hq := S15.call hHeld kb
  clear kb hHeld
  refine hK.out _ _ hq (fun hHeld => ?_)
  clear hK K hq
  try simp only [Act.put, sa, sb, sc]
  refine tk 6 (oi := ⟨some 68, Op.binOp BinOp.eql 9 (Operand.tmp 64) (Operand.tmp 67) 9, 4, _, _, none⟩) (v := .bool true) rfl ?_ ?_
  ·(intro w9 hSw; (try dsimp only at hSw); go_simp; first | done | (with_reducible rfl) | (simp; done) | trace_state)
  try simp only [Act.put, sa, sb, sc]
  refine tk 7 (oi := ⟨some 69, Op.move (Operand.tmp 68), 4, _, _, none⟩) (v := ?_) rfl ?_ ?_
  rotate_left
  ·(intro w9 hSw; (try dsimp only at hSw); go_simp; try with_reducible rfl)
  try simp only [Act.put, sa, sb, sc]
  refine tk 8 (oi := ⟨some 70, Op.load 27 (Operand.tmp 8), 27, _, _, some (7, true)⟩) (v := ?_) rfl ?_ ?_
  rotate_left
  ·(intro w9 hSw; (try dsimp only at hSw); go_simp; try with_reducible rfl)
  try simp only [Act.put, sa, sb, sc]
  refine tk 9 (oi := ⟨some 71, Op.load 35 (Operand.tmp 9), 35, _, _, some (7, true)⟩) (v := ?_) rfl ?_ ?_
  rotate_left
  ·(intro w9 hSw; (try dsimp only at hSw); go_simp; try with_reducible rfl)
  try simp only [Act.put, sa, sb, sc]
  refine tk 11 (oi := ⟨some 73, Op.load 27 (Operand.tmp 8), 27, _, _, some (7, true)⟩) (v := ?_) rfl ?_ ?_
  rotate_left
  ·(intro w9 hSw; (try dsimp only at hSw); go_simp; try with_reducible rfl)
  try simp only [Act.put, sa, sb, sc]
  refine tk 12 (oi := ⟨some 74, Op.load 35 (Operand.tmp 9), 35, _, _, some (7, true)⟩) (v := ?_) rfl ?_ ?_
  rotate_left
  ·(intro w9 hSw; (try dsimp only at hSw); go_simp; try with_reducible rfl)
  try simp only [Act.put, sa, sb, sc]
  refine wpAnyH_ready (rs := [10]) (by kernel_rfl) (by simp) ?_
  refine AllReadyH.cons (i := 10) (o := ⟨some 72, Op.call { callee := Callee.value (Operand.func 27), args := #[Operand.tmp 70, Operand.tmp 71], argTypes := #[27, 35] }, 9, _, _, some (7, true)⟩) rfl (fun K hK => ?_) AllReadyH.nil
  go_simp
  refine ((unhide KIS) _ (futS (unhide HK) (S15.bel hHeld))).mono ?_
  rintro e u9 ⟨rfl, kb⟩
  have hq := S15.call hHeld kb
  clear kb hHeld
  refine hK.out _ _ hq (fun hHeld => ?_)
  clear hK K hq
  try simp only [Act.put, sa, sb, sc]
  refine wpAnyH_ready (rs := [13]) (by kernel_rfl) (by simp) ?_
  refine AllReadyH.cons (i := 13) (o := ⟨some 75, Op.call { callee := Callee.value (Operand.func 28), args := #[Operand.tmp 73, Operand.tmp 74], argTypes := #[27, 35] }, 9, _, _, some (7, true)⟩) rfl (fun K hK => ?_) AllReadyH.nil
  go_simp
  refine ((unhide KSS) _ (futS (unhide HK) (S15.bel hHeld))).mono ?_
  rintro e u9 ⟨rfl, kb⟩
  have hq := S15.call hHeld kb
  clear kb hHeld
  refine hK.out _ _ hq (fun hHeld => ?_)
  clear hK K hq
  try simp only [Act.put, sa, sb, sc]
  refine tk 14 (oi := ⟨some 76, Op.binOp BinOp.eql 9 (Operand.tmp 72) (Operand.tmp 75) 9, 4, _, _, some (7, true)⟩) (v := .bool true) rfl ?_ ?_
  ·(intro w9 hSw; (try dsimp only at hSw); go_simp; first | done | (with_reducible rfl) | (simp; done) | trace_state)
  try simp only [Act.put, sa, sb, sc]
  refine tk 15 (oi := ⟨some 77, Op.pick (Operand.tmp 69) (Operand.tmp 76) (Operand.const (Value.bool false)), 4, _, _, none⟩) (v := ?_) rfl ?_ ?_
  rotate_left
  ·(intro w9 hSw; (try dsimp only at hSw); go_simp; try with_reducible rfl)
  try simp only [Act.put, sa, sb, sc]
  refine tk 16 (oi := ⟨some 4, Op.assign (Operand.tmp 77), 4, _, _, none⟩) (v := ?_) rfl ?_ ?_
  rotate_left
  ·(intro w9 hSw; (try dsimp only at hSw); go_simp; try with_reducible rfl)
  try simp only [Act.put, sa, sb, sc]
  refine wpAnyH_done (by kernel_rfl) ?_ _
  have HB := hide ((unhide HB).trans ((futS (unhide HK) (S15.bel hHeld)).mono (unhide HB).size))
  clear hHeld
  go_wp2
  go_ret
  exact ⟨by first | rfl | (simp; done), unhide HB⟩
 cases B
 ·skip
  refine wp_region_held_drew (S := (S15 ub u1.heap.size u3.heap.size (u3.heap.size + 1) (.slice a1 vs.length c1) (.slice a2 fs.length c2) (.slice a3 rs.length c3) (.bool li) (.slice oa xs.length ca) (.slice ob ys.length cb) (.bool lj) (.slice oc xs2.length cc) (.slice od ys2.length cd) (.slice f1 vt.length g1) (.slice f2 ft.length g2) (.slice f3 rt.length g3) (.slice q1 it.length k1) (.slice q2 bt.length k2) (.slice q3 jt.length k3))) (by kernel_rfl) (S15.drew (S15.of (unhide HBX).1 (unhide HBX).2.1 (unhide HBX).2.2.1 (unhide HBT).1 (unhide HBT).2.1 (Below.refl _ ub))) (fun hHeld => ?_)
  refine tk 0 (oi := ⟨some 29, Op.load 27 (Operand.tmp 5), 27, _, _, none⟩) (v := ?_) rfl ?_ ?_
  rotate_left
  ·(intro w9 hSw; (try dsimp only at hSw); go_simp; try with_reducible rfl)
  try simp only [Act.put, sa, sb, sc]
  refine tk 1 (oi := ⟨some 30, Op.load 43 (Operand.tmp 6), 43, _, _, none⟩) (v := ?_) rfl ?_ ?_
  rotate_left
  ·(intro w9 hSw; (try dsimp only at hSw); go_simp; try with_reducible rfl)
  try simp only [Act.put, sa, sb, sc]
  refine tk 3 (oi := ⟨some 32, Op.load 27 (Operand.tmp 5), 27, _, _, none⟩) (v := ?_) rfl ?_ ?_
  rotate_left
  ·(intro w9 hSw; (try dsimp only at hSw); go_simp; try with_reducible rfl)
  try simp only [Act.put, sa, sb, sc]
  refine tk 4 (oi := ⟨some 33, Op.load 43 (Operand.tmp 6), 43, _, _, none⟩) (v := ?_) rfl ?_ ?_
  rotate_left
  ·(intro w9 hSw; (try dsimp only at hSw); go_simp; try with_reducible rfl)
  try simp only [Act.put, sa, sb, sc]
  refine wpAnyH_ready (rs := [2]) (by kernel_rfl) (by simp) ?_
  refine AllReadyH.cons (i := 2) (o := ⟨some 31, Op.call { callee := Callee.value (Operand.func 25), args := #[Operand.tmp 29, Operand.tmp 30], argTypes := #[27, 43] }, 9, _, _, none⟩) rfl (fun K hK => ?_) AllReadyH.nil
  go_simp
  refine ((unhide KIE) _ (S15.bel hHeld)).mono ?_
  rintro e u9 ⟨rfl, kb⟩
  have hq := S15.call hHeld kb
  clear kb hHeld
  refine hK.out _ _ hq (fun hHeld => ?_)
  clear hK K hq
  try simp only [Act.put, sa, sb, sc]
  refine wpAnyH_ready (rs := [5]) (by kernel_rfl) (by simp) ?_
  refine AllReadyH.cons (i := 5) (o := ⟨some 34, Op.call { callee := Callee.value (Operand.func 26), args := #[Operand.tmp 32, Operand.tmp 33], argTypes := #[27, 43] }, 9, _, _, none⟩) rfl (fun K hK => ?_) AllReadyH.nil
  go_simp
  refine ((unhide KSE) _ (S15.bel hHeld)).mono ?_
  rintro e u9 ⟨rfl, kb⟩
  have hq := S15.call hHeld kb
  clear kb hHeld
  refine hK.out _ _ hq (fun hHeld => ?_)
  clear hK K hq
  try simp only [Act.put, sa, sb, sc]
  refine tk 6 (oi := ⟨some 35, Op.binOp BinOp.neq 9 (Operand.tmp 31) (Operand.tmp 34) 9, 4, _, _, none⟩) (v := .bool false) rfl ?_ ?_
  ·(intro w9 hSw; (try dsimp only at hSw); go_simp; first | done | (with_reducible rfl) | (simp; done) | trace_state)
  try simp only [Act.put, sa, sb, sc]
  refine tk 7 (oi := ⟨some 36, Op.move (Operand.tmp 35), 4, _, _, none⟩) (v := ?_) rfl ?_ ?_
  rotate_left
  ·(intro w9 hSw; (try dsimp only at hSw); go_simp; try with_reducible rfl)
  try simp only [Act.put, sa, sb, sc]
  refine tk 8 (oi := ⟨some 37, Op.load 27 (Operand.tmp 8), 27, _, _, some (7, false)⟩) (v := ?_) rfl ?_ ?_
  rotate_left
  ·(intro w9 hSw; (try dsimp only at hSw); go_simp; try with_reducible rfl)
  try simp only [Act.put, sa, sb, sc]
  refine tk 9 (oi := ⟨some 38, Op.load 35 (Operand.tmp 9), 35, _, _, some (7, false)⟩) (v := ?_) rfl ?_ ?_
  rotate_left
  ·(intro w9 hSw; (try dsimp only at hSw); go_simp; try with_reducible rfl)
  try simp only [Act.put, sa, sb, sc]
  refine tk 11 (oi := ⟨some 40, Op.load 27 (Operand.tmp 8), 27, _, _, some (7, false)⟩) (v := ?_) rfl ?_ ?_
  rotate_left
  ·(intro w9 hSw; (try dsimp only at hSw); go_simp; try with_reducible rfl)
  try simp only [Act.put, sa, sb, sc]
  refine tk 12 (oi := ⟨some 41, Op.load 35 (Operand.tmp 9), 35, _, _, some (7, false)⟩) (v := ?_) rfl ?_ ?_
  rotate_left
  ·(intro w9 hSw; (try dsimp only at hSw); go_simp; try with_reducible rfl)
  try simp only [Act.put, sa, sb, sc]
  refine wpAnyH_ready (rs := [10]) (by kernel_rfl) (by simp) ?_
  refine AllReadyH.cons (i := 10) (o := ⟨some 39, Op.call { callee := Callee.value (Operand.func 27), args := #[Operand.tmp 37, Operand.tmp 38], argTypes := #[27, 35] }, 9, _, _, some (7, false)⟩) rfl (fun K hK => ?_) AllReadyH.nil
  go_simp
  refine ((unhide KIS) _ (S15.bel hHeld)).mono ?_
  rintro e u9 ⟨rfl, kb⟩
  have hq := S15.call hHeld kb
  clear kb hHeld
  refine hK.out _ _ hq (fun hHeld => ?_)
  clear hK K hq
  try simp only [Act.put, sa, sb, sc]
  refine wpAnyH_ready (rs := [13]) (by kernel_rfl) (by simp) ?_
  refine AllReadyH.cons (i := 13) (o := ⟨some 42, Op.call { callee := Callee.value (Operand.func 28), args := #[Operand.tmp 40, Operand.tmp 41], argTypes := #[27, 35] }, 9, _, _, some (7, false)⟩) rfl (fun K hK => ?_) AllReadyH.nil
  go_simp
  refine ((unhide KSS) _ (S15.bel hHeld)).mono ?_
  rintro e u9 ⟨rfl, kb⟩
  have hq := S15.call hHeld kb
  clear kb hHeld
  refine hK.out _ _ hq (fun hHeld => ?_)
  clear hK K hq
  try simp only [Act.put, sa, sb, sc]
  refine tk 14 (oi := ⟨some 43, Op.binOp BinOp.neq 9 (Operand.tmp 39) (Operand.tmp 42) 9, 4, _, _, some (7, false)⟩) (v := .bool false) rfl ?_ ?_
  ·(intro w9 hSw; (try dsimp only at hSw); go_simp; first | done | (with_reducible rfl) | (simp; done) | trace_state)
  try simp only [Act.put, sa, sb, sc]
  refine tk 15 (oi := ⟨some 44, Op.pick (Operand.tmp 36) (Operand.const (Value.bool true)) (Operand.tmp 43), 4, _, _, none⟩) (v := ?_) rfl ?_ ?_
  rotate_left
  ·(intro w9 hSw; (try dsimp only at hSw); go_simp; try with_reducible rfl)
  try simp only [Act.put, sa, sb, sc]
  refine tk 16 (oi := ⟨some 45, Op.move (Operand.tmp 44), 4, _, _, none⟩) (v := ?_) rfl ?_ ?_
  rotate_left
  ·(intro w9 hSw; (try dsimp only at hSw); go_simp; try with_reducible rfl)
  try simp only [Act.put, sa, sb, sc]
  refine tk 17 (oi := ⟨some 46, Op.load 27 (Operand.tmp 5), 27, _, _, some (16, false)⟩) (v := ?_) rfl ?_ ?_
  rotate_left
  ·(intro w9 hSw; (try dsimp only at hSw); go_simp; try with_reducible rfl)
  try simp only [Act.put, sa, sb, sc]
  refine tk 18 (oi := ⟨some 47, Op.load 43 (Operand.tmp 6), 43, _, _, some (16, false)⟩) (v := ?_) rfl ?_ ?_
  rotate_left
  ·(intro w9 hSw; (try dsimp only at hSw); go_simp; try with_reducible rfl)
  try simp only [Act.put, sa, sb, sc]
  refine wpAnyH_ready (rs := [19]) (by kernel_rfl) (by simp) ?_
  refine AllReadyH.cons (i := 19) (o := ⟨some 48, Op.call { callee := Callee.value (Operand.func 29), args := #[Operand.tmp 46, Operand.tmp 47], argTypes := #[27, 43] }, 4, _, _, some (16, false)⟩) rfl (fun K hK => ?_) AllReadyH.nil
  go_simp
  refine ((unhide KA) _ (S15.bel hHeld)).mono ?_
  rintro e u9 ⟨rfl, kb⟩
  have hq := S15.call hHeld kb
  clear kb hHeld
  refine hK.out _ _ hq (fun hHeld => ?_)
  clear hK K hq
  try simp only [Act.put, sa, sb, sc]
  refine tk 20 (oi := ⟨some 49, Op.unOp UnOp.not 4 (Operand.tmp 48), 4, _, _, some (16, false)⟩) (v := ?_) rfl ?_ ?_
  rotate_left
  ·(intro w9 hSw; (try dsimp only at hSw); go_simp; try with_reducible rfl)
  try simp only [Act.put, sa, sb, sc]
  refine tk 21 (oi := ⟨some 50, Op.pick (Operand.tmp 45) (Operand.const (Value.bool true)) (Operand.tmp 49), 4, _, _, none⟩) (v := ?_) rfl ?_ ?_
  rotate_left
  ·(intro w9 hSw; (try dsimp only at hSw); go_simp; try with_reducible rfl)
  try simp only [Act.put, sa, sb, sc]
  refine tk 22 (oi := ⟨some 51, Op.move (Operand.tmp 50), 4, _, _, none⟩) (v := ?_) rfl ?_ ?_
  rotate_left
  ·(intro w9 hSw; (try dsimp only at hSw); go_simp; try with_reducible rfl)
  try simp only [Act.put, sa, sb, sc]
  refine tk 23 (oi := ⟨some 52, Op.load 27 (Operand.tmp 5), 27, _, _, some (22, false)⟩) (v := ?_) rfl ?_ ?_
  rotate_left
  ·(intro w9 hSw; (try dsimp only at hSw); go_simp; try with_reducible rfl)
  try simp only [Act.put, sa, sb, sc]
  refine tk 24 (oi := ⟨some 53, Op.load 43 (Operand.tmp 7), 43, _, _, some (22, false)⟩) (v := ?_) rfl ?_ ?_
  rotate_left
  ·(intro w9 hSw; (try dsimp only at hSw); go_simp; try with_reducible rfl)
  try simp only [Act.put, sa, sb, sc]
  refine wpAnyH_ready (rs := [25]) (by kernel_rfl) (by simp) ?_
  refine AllReadyH.cons (i := 25) (o := ⟨some 54, Op.call { callee := Callee.value (Operand.func 29), args := #[Operand.tmp 52, Operand.tmp 53], argTypes := #[27, 43] }, 4, _, _, some (22, false)⟩) rfl (fun K hK => ?_) AllReadyH.nil
  go_simp
  refine ((unhide KB) _ (S15.bel hHeld)).mono ?_
  rintro e u9 ⟨rfl, kb⟩
  have hq := S15.call hHeld kb
  clear kb hHeld
  refine hK.out _ _ hq (fun hHeld => ?_)
  clear hK K hq
  try simp only [Act.put, sa, sb, sc]
  refine tk 26 (oi := ⟨some 55, Op.unOp UnOp.not 4 (Operand.tmp 54), 4, _, _, some (22, false)⟩) (v := ?_) rfl ?_ ?_
  rotate_left
  ·(intro w9 hSw; (try dsimp only at hSw); go_simp; try with_reducible rfl)
  try simp only [Act.put, sa, sb, sc]
  refine tk 27 (oi := ⟨some 56, Op.pick (Operand.tmp 51) (Operand.const (Value.bool true)) (Operand.tmp 55), 4, _, _, none⟩) (v := ?_) rfl ?_ ?_
  rotate_left
  ·(intro w9 hSw; (try dsimp only at hSw); go_simp; try with_reducible rfl)
  try simp only [Act.put, sa, sb, sc]
  refine tk 28 (oi := ⟨some 57, Op.move (Operand.tmp 56), 4, _, _, none⟩) (v := ?_) rfl ?_ ?_
  rotate_left
  ·(intro w9 hSw; (try dsimp only at hSw); go_simp; try with_reducible rfl)
  try simp only [Act.put, sa, sb, sc]
  refine wpAnyH_take (i := 29) (oi := ⟨some 58, Op.fieldAddr 43 (Operand.tmp 6) 0, 0, _, _, some (28, false)⟩) (v := undef) rfl (by kernel_rfl) (by kernel_rfl) (by kernel_rfl) (fun _ _ _ h => h) (Or.inr ⟨by rfl, rfl⟩) (by assumption) ?_
  try simp only [Act.put, sa, sb, sc]
  refine wpAnyH_take (i := 30) (oi := ⟨some 59, Op.load 4 (Operand.tmp 58), 4, _, _, some (28, false)⟩) (v := undef) rfl (by kernel_rfl) (by kernel_rfl) (by kernel_rfl) (fun _ _ _ h => h) (Or.inr ⟨by rfl, rfl⟩) (by assumption) ?_
  try simp only [Act.put, sa, sb, sc]
  refine wpAnyH_take (i := 31) (oi := ⟨some 60, Op.unOp UnOp.not 4 (Operand.tmp 59), 4, _, _, some (28, false)⟩) (v := undef) rfl (by kernel_rfl) (by kernel_rfl) (by kernel_rfl) (fun _ _ _ h => h) (Or.inr ⟨by rfl, rfl⟩) (by assumption) ?_
  try simp only [Act.put, sa, sb, sc]
  refine tk 32 (oi := ⟨some 61, Op.pick (Operand.tmp 57) (Operand.const (Value.bool true)) (Operand.tmp 60), 4, _, _, none⟩) (v := ?_) rfl ?_ ?_
  rotate_left
  ·(intro w9 hSw; (try dsimp only at hSw); go_simp; try with_reducible rfl)
  try simp only [Act.put, sa, sb, sc]
  refine wpAnyH_done (by kernel_rfl) ?_ _
  have HK := hide (S15.bel hHeld)
  clear hHeld
  generalize u9 = ur at HK ⊢
  go_upto_region 6 with fail
  refine wp_region_held_drew (S := (S15 ur u1.heap.size u3.heap.size (u3.heap.size + 1) (.slice a1 vs.length c1) (.slice a2 fs.length c2) (.slice a3 rs.length c3) (.bool li) (.slice oa xs.length ca) (.slice ob ys.length cb) (.bool lj) (.slice oc xs2.length cc) (.slice od ys2.length cd) (.slice f1 vt.length g1) (.slice f2 ft.length g2) (.slice f3 rt.length g3) (.slice q1 it.length k1) (.slice q2 bt.length k2) (.slice q3 jt.length k3))) (by kernel_rfl) (S15.drew (S15.of ((unhide HBX).1.call (unhide HK)) ((unhide HBX).2.1.call (unhide HK)) ((unhide HBX).2.2.1.call (unhide HK)) ((unhide HBT).1.call (unhide HK)) ((unhide HBT).2.1.call (unhide HK)) (Below.refl _ ur))) (fun hHeld => ?_)
  refine tk 0 (oi := ⟨some 62, Op.load 27 (Operand.tmp 5), 27, _, _, none⟩) (v := ?_) rfl ?_ ?_
  rotate_left
  ·(intro w9 hSw; (try dsimp only at hSw); go_simp; try with_reducible rfl)
  try simp only [Act.put, sa, sb, sc]
  refine tk 1 (oi := ⟨some 63, Op.load 43 (Operand.tmp 6), 43, _, _, none⟩) (v := ?_) rfl ?_ ?_
  rotate_left
  ·(intro w9 hSw; (try dsimp only at hSw); go_simp; try with_reducible rfl)
  try simp only [Act.put, sa, sb, sc]
  refine tk 3 (oi := ⟨some 65, Op.load 27 (Operand.tmp 5), 27, _, _, none⟩) (v := ?_) rfl ?_ ?_
  rotate_left
  ·(intro w9 hSw; (try dsimp only at hSw); go_simp; try with_reducible rfl)
  try simp only [Act.put, sa, sb, sc]
  refine tk 4 (oi := ⟨some 66, Op.load 43 (Operand.tmp 6), 43, _, _, none⟩) (v := ?_) rfl ?_ ?_
  rotate_left
  ·(intro w9 hSw; (try dsimp only at hSw); go_simp; try with_reducible rfl)
  try simp only [Act.put, sa, sb, sc]
  refine wpAnyH_ready (rs := [2]) (by kernel_rfl) (by simp) ?_
  refine AllReadyH.cons (i := 2) (o := ⟨some 64, Op.call { callee := Callee.value (Operand.func 25), args := #[Operand.tmp 62, Operand.tmp 63], argTypes := #[27, 43] }, 9, _, _, none⟩) rfl (fun K hK => ?_) AllReadyH.nil
  go_simp
  refine ((unhide KIE) _ (futS (unhide HK) (S15.bel hHeld))).mono ?_
  rintro e u9 ⟨rfl, kb⟩
  have hq := S15.call hHeld kb
  clear kb hHeld
  refine hK.out _ _ hq (fun hHeld => ?_)
  clear hK K hq
  try simp only [Act.put, sa, sb, sc]
  refine wpAnyH_ready (rs := [5]) (by kernel_rfl) (by simp) ?_
  refine AllReadyH.cons (i := 5) (o := ⟨some 67, Op.call { callee := Callee.value (Operand.func 26), args := #[Operand.tmp 65, Operand.tmp 66], argTypes := #[27, 43] }, 9, _, _, none⟩) rfl (fun K hK => ?_) AllReadyH.nil
  go_simp
  refine ((unhide KSE) _ (futS (unhide HK) (S15.bel hHeld))).mono ?_
  rintro e u9 ⟨rfl, kb⟩
  have hq := S15.call hHeld kb
  clear kb hHeld
  refine hK.out _ _ hq (fun hHeld => ?_)
  clear hK K hq
  try simp only [Act.put, sa, sb, sc]
  refine tk 6 (oi := ⟨some 68, Op.binOp BinOp.eql 9 (Operand.tmp 64) (Operand.tmp 67) 9, 4, _, _, none⟩) (v := .bool true) rfl ?_ ?_
  ·(intro w9 hSw; (try dsimp only at hSw); go_simp; first | done | (with_reducible rfl) | (simp; done) | trace_state)
  try simp only [Act.put, sa, sb, sc]
  refine tk 7 (oi := ⟨some 69, Op.move (Operand.tmp 68), 4, _, _, none⟩) (v := ?_) rfl ?_ ?_
  rotate_left
  ·(intro w9 hSw; (try dsimp only at hSw); go_simp; try with_reducible rfl)
  try simp only [Act.put, sa, sb, sc]
  refine tk 8 (oi := ⟨some 70, Op.load 27 (Operand.tmp 8), 27, _, _, some (7, true)⟩) (v := ?_) rfl ?_ ?_
  rotate_left
  ·(intro w9 hSw; (try dsimp only at hSw); go_simp; try with_reducible rfl)
  try simp only [Act.put, sa, sb, sc]
  refine tk 9 (oi := ⟨some 71, Op.load 35 (Operand.tmp 9), 35, _, _, some (7, true)⟩) (v := ?_) rfl ?_ ?_
  rotate_left
  ·(intro w9 hSw; (try dsimp only at hSw); go_simp; try with_reducible rfl)
  try simp only [Act.put, sa, sb, sc]
  refine tk 11 (oi := ⟨some 73, Op.load 27 (Operand.tmp 8), 27, _, _, some (7, true)⟩) (v := ?_) rfl ?_ ?_
  rotate_left
  ·(intro w9 hSw; (try dsimp only at hSw); go_simp; try with_reducible rfl)
  try simp only [Act.put, sa, sb, sc]
  refine tk 12 (oi := ⟨some 74, Op.load 35 (Operand.tmp 9), 35, _, _, some (7, true)⟩) (v := ?_) rfl ?_ ?_
  rotate_left
  ·(intro w9 hSw; (try dsimp only at hSw); go_simp; try with_reducible rfl)
  try simp only [Act.put, sa, sb, sc]
  refine wpAnyH_ready (rs := [10]) (by kernel_rfl) (by simp) ?_
  refine AllReadyH.cons (i := 10) (o := ⟨some 72, Op.call { callee := Callee.value (Operand.func 27), args := #[Operand.tmp 70, Operand.tmp 71], argTypes := #[27, 35] }, 9, _, _, some (7, true)⟩) rfl (fun K hK => ?_) AllReadyH.nil
  go_simp
  refine ((unhide KIS) _ (futS (unhide HK) (S15.bel hHeld))).mono ?_
  rintro e u9 ⟨rfl, kb⟩
  have hq := S15.call hHeld kb
  clear kb hHeld
  refine hK.out _ _ hq (fun hHeld => ?_)
  clear hK K hq
  try simp only [Act.put, sa, sb, sc]
  refine wpAnyH_ready (rs := [13]) (by kernel_rfl) (by simp) ?_
  refine AllReadyH.cons (i := 13) (o := ⟨some 75, Op.call { callee := Callee.value (Operand.func 28), args := #[Operand.tmp 73, Operand.tmp 74], argTypes := #[27, 35] }, 9, _, _, some (7, true)⟩) rfl (fun K hK => ?_) AllReadyH.nil
  go_simp
  refine ((unhide KSS) _ (futS (unhide HK) (S15.bel hHeld))).mono ?_
  rintro e u9 ⟨rfl, kb⟩
  have hq := S15.call hHeld kb
  clear kb hHeld
  refine hK.out _ _ hq (fun hHeld => ?_)
  clear hK K hq
  try simp only [Act.put, sa, sb, sc]
  refine tk 14 (oi := ⟨some 76, Op.binOp BinOp.eql 9 (Operand.tmp 72) (Operand.tmp 75) 9, 4, _, _, some (7, true)⟩) (v := .bool true) rfl ?_ ?_
  ·(intro w9 hSw; (try dsimp only at hSw); go_simp; first | done | (with_reducible rfl) | (simp; done) | trace_state)
  try simp only [Act.put, sa, sb, sc]
  refine tk 15 (oi := ⟨some 77, Op.pick (Operand.tmp 69) (Operand.tmp 76) (Operand.const (Value.bool false)), 4, _, _, none⟩) (v := ?_) rfl ?_ ?_
  rotate_left
  ·(intro w9 hSw; (try dsimp only at hSw); go_simp; try with_reducible rfl)
  try simp only [Act.put, sa, sb, sc]
  refine tk 16 (oi := ⟨some 4, Op.assign (Operand.tmp 77), 4, _, _, none⟩) (v := ?_) rfl ?_ ?_
  rotate_left
  ·(intro w9 hSw; (try dsimp only at hSw); go_simp; try with_reducible rfl)
  try simp only [Act.put, sa, sb, sc]
  refine wpAnyH_done (by kernel_rfl) ?_ _
  have HB := hide ((unhide HB).trans ((futS (unhide HK) (S15.bel hHeld)).mono (unhide HB).size))
  clear hHeld
  go_wp2
  go_ret
  exact ⟨by first | rfl | (simp; done), unhide HB⟩
 cases li
 ·skip
  refine wp_region_held_drew (S := (S15 ub u1.heap.size u3.heap.size (u3.heap.size + 1) (.slice a1 vs.length c1) (.slice a2 fs.length c2) (.slice a3 rs.length c3) (.bool false) (.slice oa xs.length ca) (.slice ob ys.length cb) (.bool lj) (.slice oc xs2.length cc) (.slice od ys2.length cd) (.slice f1 vt.length g1) (.slice f2 ft.length g2) (.slice f3 rt.length g3) (.slice q1 it.length k1) (.slice q2 bt.length k2) (.slice q3 jt.length k3))) (by kernel_rfl) (S15.drew (S15.of (unhide HBX).1 (unhide HBX).2.1 (unhide HBX).2.2.1 (unhide HBT).1 (unhide HBT).2.1 (Below.refl _ ub))) (fun hHeld => ?_)
  refine tk 0 (oi := ⟨some 29, Op.load 27 (Operand.tmp 5), 27, _, _, none⟩) (v := ?_) rfl ?_ ?_
  rotate_left
  ·(intro w9 hSw; (try dsimp only at hSw); go_simp; try with_reducible rfl)
  try simp only [Act.put, sa, sb, sc]
  refine tk 1 (oi := ⟨some 30, Op.load 43 (Operand.tmp 6), 43, _, _, none⟩) (v := ?_) rfl ?_ ?_
  rotate_left
  ·(intro w9 hSw; (try dsimp only at hSw); go_simp; try with_reducible rfl)
  try simp only [Act.put, sa, sb, sc]
  refine tk 3 (oi := ⟨some 32, Op.load 27 (Operand.tmp 5), 27, _, _, none⟩) (v := ?_) rfl ?_ ?_
  rotate_left
  ·(intro w9 hSw; (try dsimp only at hSw); go_simp; try with_reducible rfl)
  try simp only [Act.put, sa, sb, sc]
  refine tk 4 (oi := ⟨some 33, Op.load 43 (Operand.tmp 6), 43, _, _, none⟩) (v := ?_) rfl ?_ ?_
  rotate_left
  ·(intro w9 hSw; (try dsimp only at hSw); go_simp; try with_reducible rfl)
  try simp only [Act.put, sa, sb, sc]
  refine wpAnyH_ready (rs := [2]) (by kernel_rfl) (by simp) ?_
  refine AllReadyH.cons (i := 2) (o := ⟨some 31, Op.call { callee := Callee.value (Operand.func 25), args := #[Operand.tmp 29, Operand.tmp 30], argTypes := #[27, 43] }, 9, _, _, none⟩) rfl (fun K hK => ?_) AllReadyH.nil
  go_simp
  refine ((unhide KIE) _ (S15.bel hHeld)).mono ?_
  rintro e u9 ⟨rfl, kb⟩
  have hq := S15.call hHeld kb
  clear kb hHeld
  refine hK.out _ _ hq (fun hHeld => ?_)
  clear hK K hq
  try simp only [Act.put, sa, sb, sc]
  refine wpAnyH_ready (rs := [5]) (by kernel_rfl) (by simp) ?_
  refine AllReadyH.cons (i := 5) (o := ⟨some 34, Op.call { callee := Callee.value (Operand.func 26), args := #[Operand.tmp 32, Operand.tmp 33], argTypes := #[27, 43] }, 9, _, _, none⟩) rfl (fun K hK => ?_) AllReadyH.nil
  go_simp
  refine ((unhide KSE) _ (S15.bel hHeld)).mono ?_
  rintro e u9 ⟨rfl, kb⟩
  have hq := S15.call hHeld kb
  clear kb hHeld
  refine hK.out _ _ hq (fun hHeld => ?_)
  clear hK K hq
  try simp only [Act.put, sa, sb, sc]
  refine tk 6 (oi := ⟨some 35, Op.binOp BinOp.neq 9 (Operand.tmp 31) (Operand.tmp 34) 9, 4, _, _, none⟩) (v := .bool false) rfl ?_ ?_
  ·(intro w9 hSw; (try dsimp only at hSw); go_simp; first | done | (with_reducible rfl) | (simp; done) | trace_state)
  try simp only [Act.put, sa, sb, sc]
  refine tk 7 (oi := ⟨some 36, Op.move (Operand.tmp 35), 4, _, _, none⟩) (v := ?_) rfl ?_ ?_
  rotate_left
  ·(intro w9 hSw; (try dsimp only at hSw); go_simp; try with_reducible rfl)
  try simp only [Act.put, sa, sb, sc]
  refine tk 8 (oi := ⟨some 37, Op.load 27 (Operand.tmp 8), 27, _, _, some (7, false)⟩) (v := ?_) rfl ?_ ?_
  rotate_left
  ·(intro w9 hSw; (try dsimp only at hSw); go_simp; try with_reducible rfl)
  try simp only [Act.put, sa, sb, sc]
  refine tk 9 (oi := ⟨some 38, Op.load 35 (Operand.tmp 9), 35, _, _, some (7, false)⟩) (v := ?_) rfl ?_ ?_
  rotate_left
  ·(intro w9 hSw; (try dsimp only at hSw); go_simp; try with_reducible rfl)
  try simp only [Act.put, sa, sb, sc]
  refine tk 11 (oi := ⟨some 40, Op.load 27 (Operand.tmp 8), 27, _, _, some (7, false)⟩) (v := ?_) rfl ?_ ?_
  rotate_left
  ·(intro w9 hSw; (try dsimp only at hSw); go_simp; try with_reducible rfl)
  try simp only [Act.put, sa, sb, sc]
  refine tk 12 (oi := ⟨some 41, Op.load 35 (Operand.tmp 9), 35, _, _, some (7, false)⟩) (v := ?_) rfl ?_ ?_
  rotate_left
  ·(intro w9 hSw; (try dsimp only at hSw); go_simp; try with_reducible rfl)
  try simp only [Act.put, sa, sb, sc]
  refine wpAnyH_ready (rs := [10]) (by kernel_rfl) (by simp) ?_
  refine AllReadyH.cons (i := 10) (o := ⟨some 39, Op.call { callee := Callee.value (Operand.func 27), args := #[Operand.tmp 37, Operand.tmp 38], argTypes := #[27, 35] }, 9, _, _, some (7, false)⟩) rfl (fun K hK => ?_) AllReadyH.nil
  go_simp
  refine ((unhide KIS) _ (S15.bel hHeld)).mono ?_
  rintro e u9 ⟨rfl, kb⟩
  have hq := S15.call hHeld kb
  clear kb hHeld
  refine hK.out _ _ hq (fun hHeld => ?_)
  clear hK K hq
  try simp only [Act.put, sa, sb, sc]
  refine wpAnyH_ready (rs := [13]) (by kernel_rfl) (by simp) ?_
  refine AllReadyH.cons (i := 13) (o := ⟨some 42, Op.call { callee := Callee.value (Operand.func 28), args := #[Operand.tmp 40, Operand.tmp 41], argTypes := #[27, 35] }, 9, _, _, some (7, false)⟩) rfl (fun K hK => ?_) AllReadyH.nil
  go_simp
  refine ((unhide KSS) _ (S15.bel hHeld)).mono ?_
  rintro e u9 ⟨rfl, kb⟩
  have hq := S15.call hHeld kb
  clear kb hHeld
  refine hK.out _ _ hq (fun hHeld => ?_)
  clear hK K hq
  try simp only [Act.put, sa, sb, sc]
  refine tk 14 (oi := ⟨some 43, Op.binOp BinOp.neq 9 (Operand.tmp 39) (Operand.tmp 42) 9, 4, _, _, some (7, false)⟩) (v := .bool false) rfl ?_ ?_
  ·(intro w9 hSw; (try dsimp only at hSw); go_simp; first | done | (with_reducible rfl) | (simp; done) | trace_state)
  try simp only [Act.put, sa, sb, sc]
  refine tk 15 (oi := ⟨some 44, Op.pick (Operand.tmp 36) (Operand.const (Value.bool true)) (Operand.tmp 43), 4, _, _, none⟩) (v := ?_) rfl ?_ ?_
  rotate_left
  ·(intro w9 hSw; (try dsimp only at hSw); go_simp; try with_reducible rfl)
  try simp only [Act.put, sa, sb, sc]
  refine tk 16 (oi := ⟨some 45, Op.move (Operand.tmp 44), 4, _, _, none⟩) (v := ?_) rfl ?_ ?_
  rotate_left
  ·(intro w9 hSw; (try dsimp only at hSw); go_simp; try with_reducible rfl)
  try simp only [Act.put, sa, sb, sc]
  refine tk 17 (oi := ⟨some 46, Op.load 27 (Operand.tmp 5), 27, _, _, some (16, false)⟩) (v := ?_) rfl ?_ ?_
  rotate_left
  ·(intro w9 hSw; (try dsimp only at hSw); go_simp; try with_reducible rfl)
  try simp only [Act.put, sa, sb, sc]
  refine tk 18 (oi := ⟨some 47, Op.load 43 (Operand.tmp 6), 43, _, _, some (16, false)⟩) (v := ?_) rfl ?_ ?_
  rotate_left
  ·(intro w9 hSw; (try dsimp only at hSw); go_simp; try with_reducible rfl)
  try simp only [Act.put, sa, sb, sc]
  refine wpAnyH_ready (rs := [19]) (by kernel_rfl) (by simp) ?_
  refine AllReadyH.cons (i := 19) (o := ⟨some 48, Op.call { callee := Callee.value (Operand.func 29), args := #[Operand.tmp 46, Operand.tmp 47], argTypes := #[27, 43] }, 4, _, _, some (16, false)⟩) rfl (fun K hK => ?_) AllReadyH.nil
  go_simp
  refine ((unhide KA) _ (S15.bel hHeld)).mono ?_
  rintro e u9 ⟨rfl, kb⟩
  have hq := S15.call hHeld kb
  clear kb hHeld
  refine hK.out _ _ hq (fun hHeld => ?_)
  clear hK K hq
  try simp only [Act.put, sa, sb, sc]
  refine tk 20 (oi := ⟨some 49, Op.unOp UnOp.not 4 (Operand.tmp 48), 4, _, _, some (16, false)⟩) (v := ?_) rfl ?_ ?_
  rotate_left
  ·(intro w9 hSw; (try dsimp only at hSw); go_simp; try with_reducible rfl)
  try simp only [Act.put, sa, sb, sc]
  refine tk 21 (oi := ⟨some 50, Op.pick (Operand.tmp 45) (Operand.const (Value.bool true)) (Operand.tmp 49), 4, _, _, none⟩) (v := ?_) rfl ?_ ?_
  rotate_left
  ·(intro w9 hSw; (try dsimp only at hSw); go_simp; try with_reducible rfl)
  try simp only [Act.put, sa, sb, sc]
  refine tk 22 (oi := ⟨some 51, Op.move (Operand.tmp 50), 4, _, _, none⟩) (v := ?_) rfl ?_ ?_
  rotate_left
  ·(intro w9 hSw; (try dsimp only at hSw); go_simp; try with_reducible rfl)
  try simp only [Act.put, sa, sb, sc]
  refine tk 23 (oi := ⟨some 52, Op.load 27 (Operand.tmp 5), 27, _, _, some (22, false)⟩) (v := ?_) rfl ?_ ?_
  rotate_left
  ·(intro w9 hSw; (try dsimp only at hSw); go_simp; try with_reducible rfl)
  try simp only [Act.put, sa, sb, sc]
  refine tk 24 (oi := ⟨some 53, Op.load 43 (Operand.tmp 7), 43, _, _, some (22, false)⟩) (v := ?_) rfl ?_ ?_
  rotate_left
  ·(intro w9 hSw; (try dsimp only at hSw); go_simp; try with_reducible rfl)
  try simp only [Act.put, sa, sb, sc]
  refine wpAnyH_ready (rs := [25]) (by kernel_rfl) (by simp) ?_
  refine AllReadyH.cons (i := 25) (o := ⟨some 54, Op.call { callee := Callee.value (Operand.func 29), args := #[Operand.tmp 52, Operand.tmp 53], argTypes := #[27, 43] }, 4, _, _, some (22, false)⟩) rfl (fun K hK => ?_) AllReadyH.nil
  go_simp
  refine ((unhide KB) _ (S15.bel hHeld)).mono ?_
  rintro e u9 ⟨rfl, kb⟩
  have hq := S15.call hHeld kb
  clear kb hHeld
  refine hK.out _ _ hq (fun hHeld => ?_)
  clear hK K hq
  try simp only [Act.put, sa, sb, sc]
  refine tk 26 (oi := ⟨some 55, Op.unOp UnOp.not 4 (Operand.tmp 54), 4, _, _, some (22, false)⟩) (v := ?_) rfl ?_ ?_
  rotate_left
  ·(intro w9 hSw; (try dsimp only at hSw); go_simp; try with_reducible rfl)
  try simp only [Act.put, sa, sb, sc]
  refine tk 27 (oi := ⟨some 56, Op.pick (Operand.tmp 51) (Operand.const (Value.bool true)) (Operand.tmp 55), 4, _, _, none⟩) (v := ?_) rfl ?_ ?_
  rotate_left
  ·(intro w9 hSw; (try dsimp only at hSw); go_simp; try with_reducible rfl)
  try simp only [Act.put, sa, sb, sc]
  refine tk 28 (oi := ⟨some 57, Op.move (Operand.tmp 56), 4, _, _, none⟩) (v := ?_) rfl ?_ ?_
  rotate_left
  ·(intro w9 hSw; (try dsimp only at hSw); go_simp; try with_reducible rfl)
  try simp only [Act.put, sa, sb, sc]
  refine tk 29 (oi := ⟨some 58, Op.fieldAddr 43 (Operand.tmp 6) 0, 0, _, _, some (28, false)⟩) (v := ?_) rfl ?_ ?_
  rotate_left
  ·(intro w9 hSw; (try dsimp only at hSw); go_simp; try with_reducible rfl)
  try simp only [Act.put, sa, sb, sc]
  refine tk 30 (oi := ⟨some 59, Op.load 4 (Operand.tmp 58), 4, _, _, some (28, false)⟩) (v := ?_) rfl ?_ ?_
  rotate_left
  ·(intro w9 hSw; (try dsimp only at hSw); go_simp; try with_reducible rfl)
  try simp only [Act.put, sa, sb, sc]
  refine tk 31 (oi := ⟨some 60, Op.unOp UnOp.not 4 (Operand.tmp 59), 4, _, _, some (28, false)⟩) (v := ?_) rfl ?_ ?_
  rotate_left
  ·(intro w9 hSw; (try dsimp only at hSw); go_simp; try with_reducible rfl)
  try simp only [Act.put, sa, sb, sc]
  refine tk 32 (oi := ⟨some 61, Op.pick (Operand.tmp 57) (Operand.const (Value.bool true)) (Operand.tmp 60), 4, _, _, none⟩) (v := ?_) rfl ?_ ?_
  rotate_left
  ·(intro w9 hSw; (try dsimp only at hSw); go_simp; try with_reducible rfl)
  try simp only [Act.put, sa, sb, sc]
  refine wpAnyH_done (by kernel_rfl) ?_ _
  have HK := hide (S15.bel hHeld)
  clear hHeld
  generalize u9 = ur at HK ⊢
  go_upto_region 6 with fail
  refine wp_region_held_drew (S := (S15 ur u1.heap.size u3.heap.size (u3.heap.size + 1) (.slice a1 vs.length c1) (.slice a2 fs.length c2) (.slice a3 rs.length c3) (.bool false) (.slice oa xs.length ca) (.slice ob ys.length cb) (.bool lj) (.slice oc xs2.length cc) (.slice od ys2.length cd) (.slice f1 vt.length g1) (.slice f2 ft.length g2) (.slice f3 rt.length g3) (.slice q1 it.length k1) (.slice q2 bt.length k2) (.slice q3 jt.length k3))) (by kernel_rfl) (S15.drew (S15.of ((unhide HBX).1.call (unhide HK)) ((unhide HBX).2.1.call (unhide HK)) ((unhide HBX).2.2.1.call (unhide HK)) ((unhide HBT).1.call (unhide HK)) ((unhide HBT).2.1.call (unhide HK)) (Below.refl _ ur))) (fun hHeld => ?_)
  refine tk 0 (oi := ⟨some 62, Op.load 27 (Operand.tmp 5), 27, _, _, none⟩) (v := ?_) rfl ?_ ?_
  rotate_left
  ·(intro w9 hSw; (try dsimp only at hSw); go_simp; try with_reducible rfl)
  try simp only [Act.put, sa, sb, sc]
  refine tk 1 (oi := ⟨some 63, Op.load 43 (Operand.tmp 6), 43, _, _, none⟩) (v := ?_) rfl ?_ ?_
  rotate_left
  ·(intro w9 hSw; (try dsimp only at hSw); go_simp; try with_reducible rfl)
  try simp only [Act.put, sa, sb, sc]
  refine tk 3 (oi := ⟨some 65, Op.load 27 (Operand.tmp 5), 27, _, _, none⟩) (v := ?_) rfl ?_ ?_
  rotate_left
  ·(intro w9 hSw; (try dsimp only at hSw); go_simp; try with_reducible rfl)
  try simp only [Act.put, sa, sb, sc]
  refine tk 4 (oi := ⟨some 66, Op.load 43 (Operand.tmp 6), 43, _, _, none⟩) (v := ?_) rfl ?_ ?_
  rotate_left
  ·(intro w9 hSw; (try dsimp only at hSw); go_simp; try with_reducible rfl)
  try simp only [Act.put, sa, sb, sc]
  refine wpAnyH_ready (rs := [2]) (by kernel_rfl) (by simp) ?_
  refine AllReadyH.cons (i := 2) (o := ⟨some 64, Op.call { callee := Callee.value (Operand.func 25), args := #[Operand.tmp 62, Operand.tmp 63], argTypes := #[27, 43] }, 9, _, _, none⟩) rfl (fun K hK => ?_) AllReadyH.nil
  go_simp
  refine ((unhide KIE) _ (futS (unhide HK) (S15.bel hHeld))).mono ?_
  rintro e u9 ⟨rfl, kb⟩
  have hq := S15.call hHeld kb
  clear kb hHeld
  refine hK.out _ _ hq (fun hHeld => ?_)
  clear hK K hq
  try simp only [Act.put, sa, sb, sc]
  refine wpAnyH_ready (rs := [5]) (by kernel_rfl) (by simp) ?_
  refine AllReadyH.cons (i := 5) (o := ⟨some 67, Op.call { callee := Callee.value (Operand.func 26), args := #[Operand.tmp 65, Operand.tmp 66], argTypes := #[27, 43] }, 9, _, _, none⟩) rfl (fun K hK => ?_) AllReadyH.nil
  go_simp
  refine ((unhide KSE) _ (futS (unhide HK) (S15.bel hHeld))).mono ?_
  rintro e u9 ⟨rfl, kb⟩
  have hq := S15.call hHeld kb
  clear kb hHeld
  refine hK.out _ _ hq (fun hHeld => ?_)
  clear hK K hq
  try simp only [Act.put, sa, sb, sc]
  refine tk 6 (oi := ⟨some 68, Op.binOp BinOp.eql 9 (Operand.tmp 64) (Operand.tmp 67) 9, 4, _, _, none⟩) (v := .bool true) rfl ?_ ?_
  ·(intro w9 hSw; (try dsimp only at hSw); go_simp; first | done | (with_reducible rfl) | (simp; done) | trace_state)
  try simp only [Act.put, sa, sb, sc]
  refine tk 7 (oi := ⟨some 69, Op.move (Operand.tmp 68), 4, _, _, none⟩) (v := ?_) rfl ?_ ?_
  rotate_left
  ·(intro w9 hSw; (try dsimp only at hSw); go_simp; try with_reducible rfl)
  try simp only [Act.put, sa, sb, sc]
  refine tk 8 (oi := ⟨some 70, Op.load 27 (Operand.tmp 8), 27, _, _, some (7, true)⟩) (v := ?_) rfl ?_ ?_
  rotate_left
  ·(intro w9 hSw; (try dsimp only at hSw); go_simp; try with_reducible rfl)
  try simp only [Act.put, sa, sb, sc]
  refine tk 9 (oi := ⟨some 71, Op.load 35 (Operand.tmp 9), 35, _, _, some (7, true)⟩) (v := ?_) rfl ?_ ?_
  rotate_left
  ·(intro w9 hSw; (try dsimp only at hSw); go_simp; try with_reducible rfl)
  try simp only [Act.put, sa, sb, sc]
  refine tk 11 (oi := ⟨some 73, Op.load 27 (Operand.tmp 8), 27, _, _, some (7, true)⟩) (v := ?_) rfl ?_ ?_
  rotate_left
  ·(intro w9 hSw; (try dsimp only at hSw); go_simp; try with_reducible rfl)
  try simp only [Act.put, sa, sb, sc]
  refine tk 12 (oi := ⟨some 74, Op.load 35 (Operand.tmp 9), 35, _, _, some (7, true)⟩) (v := ?_) rfl ?_ ?_
  rotate_left
  ·(intro w9 hSw; (try dsimp only at hSw); go_simp; try with_reducible rfl)
  try simp only [Act.put, sa, sb, sc]
  refine wpAnyH_ready (rs := [10]) (by kernel_rfl) (by simp) ?_
  refine AllReadyH.cons (i := 10) (o := ⟨some 72, Op.call { callee := Callee.value (Operand.func 27), args := #[Operand.tmp 70, Operand.tmp 71], argTypes := #[27, 35] }, 9, _, _, some (7, true)⟩) rfl (fun K hK => ?_) AllReadyH.nil
  go_simp
  refine ((unhide KIS) _ (futS (unhide HK) (S15.bel hHeld))).mono ?_
  rintro e u9 ⟨rfl, kb⟩
  have hq := S15.call hHeld kb
  clear kb hHeld
  refine hK.out _ _ hq (fun hHeld => ?_)
  clear hK K hq
  try simp only [Act.put, sa, sb, sc]
  refine wpAnyH_ready (rs := [13]) (by kernel_rfl) (by simp) ?_
  refine AllReadyH.cons (i := 13) (o := ⟨some 75, Op.call { callee := Callee.value (Operand.func 28), args := #[Operand.tmp 73, Operand.tmp 74], argTypes := #[27, 35] }, 9, _, _, some (7, true)⟩) rfl (fun K hK => ?_) AllReadyH.nil
  go_simp
  refine ((unhide KSS) _ (futS (unhide HK) (S15.bel hHeld))).mono ?_
  rintro e u9 ⟨rfl, kb⟩
  have hq := S15.call hHeld kb
  clear kb hHeld
  refine hK.out _ _ hq (fun hHeld => ?_)
  clear hK K hq
  try simp only [Act.put, sa, sb, sc]
  refine tk 14 (oi := ⟨some 76, Op.binOp BinOp.eql 9 (Operand.tmp 72) (Operand.tmp 75) 9, 4, _, _, some (7, true)⟩) (v := .bool true) rfl ?_ ?_
  ·(intro w9 hSw; (try dsimp only at hSw); go_simp; first | done | (with_reducible rfl) | (simp; done) | trace_state)
  try simp only [Act.put, sa, sb, sc]
  refine tk 15 (oi := ⟨some 77, Op.pick (Operand.tmp 69) (Operand.tmp 76) (Operand.const (Value.bool false)), 4, _, _, none⟩) (v := ?_) rfl ?_ ?_
  rotate_left
  ·(intro w9 hSw; (try dsimp only at hSw); go_simp; try with_reducible rfl)
  try simp only [Act.put, sa, sb, sc]
  refine tk 16 (oi := ⟨some 4, Op.assign (Operand.tmp 77), 4, _, _, none⟩) (v := ?_) rfl ?_ ?_
  rotate_left
  ·(intro w9 hSw; (try dsimp only at hSw); go_simp; try with_reducible rfl)
  try simp only [Act.put, sa, sb, sc]
  refine wpAnyH_done (by kernel_rfl) ?_ _
  have HB := hide ((unhide HB).trans ((futS (unhide HK) (S15.bel hHeld)).mono (unhide HB).size))
  clear hHeld
  go_wp2
  go_ret
  exact ⟨by first | rfl | (simp; done), unhide HB⟩
 refine wp_region_held_drew (S := (S15 ub u1.heap.size u3.heap.size (u3.heap.size + 1) (.slice a1 vs.length c1) (.slice a2 fs.length c2) (.slice a3 rs.length c3) (.bool true) (.slice oa xs.length ca) (.slice ob ys.length cb) (.bool lj) (.slice oc xs2.length cc) (.slice od ys2.length cd) (.slice f1 vt.length g1) (.slice f2 ft.length g2) (.slice f3 rt.length g3) (.slice q1 it.length k1) (.slice q2 bt.length k2) (.slice q3 jt.length k3))) (by kernel_rfl) (S15.drew (S15.of (unhide HBX).1 (unhide HBX).2.1 (unhide HBX).2.2.1 (unhide HBT).1 (unhide HBT).2.1 (Below.refl _ ub))) (fun hHeld => ?_)
 refine tk 0 (oi := ⟨some 29, Op.load 27 (Operand.tmp 5), 27, _, _, none⟩) (v := ?_) rfl ?_ ?_
 rotate_left
 ·(intro w9 hSw; (try dsimp only at hSw); go_simp; try with_reducible rfl)
 try simp only [Act.put, sa, sb, sc]
 refine tk 1 (oi := ⟨some 30, Op.load 43 (Operand.tmp 6), 43, _, _, none⟩) (v := ?_) rfl ?_ ?_
 rotate_left
 ·(intro w9 hSw; (try dsimp only at hSw); go_simp; try with_reducible rfl)
 try simp only [Act.put, sa, sb, sc]
 refine tk 3 (oi := ⟨some 32, Op.load 27 (Operand.tmp 5), 27, _, _, none⟩) (v := ?_) rfl ?_ ?_
 rotate_left
 ·(intro w9 hSw; (try dsimp only at hSw); go_simp; try with_reducible rfl)
 try simp only [Act.put, sa, sb, sc]
 refine tk 4 (oi := ⟨some 33, Op.load 43 (Operand.tmp 6), 43, _, _, none⟩) (v := ?_) rfl ?_ ?_
 rotate_left
 ·(intro w9 hSw; (try dsimp only at hSw); go_simp; try with_reducible rfl)
 try simp only [Act.put, sa, sb, sc]
 refine wpAnyH_ready (rs := [2]) (by kernel_rfl) (by simp) ?_
 refine AllReadyH.cons (i := 2) (o := ⟨some 31, Op.call { callee := Callee.value (Operand.func 25), args := #[Operand.tmp 29, Operand.tmp 30], argTypes := #[27, 43] }, 9, _, _, none⟩) rfl (fun K hK => ?_) AllReadyH.nil
 go_simp
 refine ((unhide KIE) _ (S15.bel hHeld)).mono ?_
 rintro e u9 ⟨rfl, kb⟩
 have hq := S15.call hHeld kb
 clear kb hHeld
 refine hK.out _ _ hq (fun hHeld => ?_)
 clear hK K hq
 try simp only [Act.put, sa, sb, sc]
 refine wpAnyH_ready (rs := [5]) (by kernel_rfl) (by simp) ?_
 refine AllReadyH.cons (i := 5) (o := ⟨some 34, Op.call { callee := Callee.value (Operand.func 26), args := #[Operand.tmp 32, Operand.tmp 33], argTypes := #[27, 43] }, 9, _, _, none⟩) rfl (fun K hK => ?_) AllReadyH.nil
 go_simp
 refine ((unhide KSE) _ (S15.bel hHeld)).mono ?_
 rintro e u9 ⟨rfl, kb⟩
 have hq := S15.call hHeld kb
 clear kb hHeld
 refine hK.out _ _ hq (fun hHeld => ?_)
 clear hK K hq
 try simp only [Act.put, sa, sb, sc]
 refine tk 6 (oi := ⟨some 35, Op.binOp BinOp.neq 9 (Operand.tmp 31) (Operand.tmp 34) 9, 4, _, _, none⟩) (v := .bool false) rfl ?_ ?_
 ·(intro w9 hSw; (try dsimp only at hSw); go_simp; first | done | (with_reducible rfl) | (simp; done) | trace_state)
 try simp only [Act.put, sa, sb, sc]
 refine tk 7 (oi := ⟨some 36, Op.move (Operand.tmp 35), 4, _, _, none⟩) (v := ?_) rfl ?_ ?_
 rotate_left
 ·(intro w9 hSw; (try dsimp only at hSw); go_simp; try with_reducible rfl)
 try simp only [Act.put, sa, sb, sc]
 refine tk 8 (oi := ⟨some 37, Op.load 27 (Operand.tmp 8), 27, _, _, some (7, false)⟩) (v := ?_) rfl ?_ ?_
 rotate_left
 ·(intro w9 hSw; (try dsimp only at hSw); go_simp; try with_reducible rfl)
 try simp only [Act.put, sa, sb, sc]
 refine tk 9 (oi := ⟨some 38, Op.load 35 (Operand.tmp 9), 35, _, _, some (7, false)⟩) (v := ?_) rfl ?_ ?_
 rotate_left
 ·(intro w9 hSw; (try dsimp only at hSw); go_simp; try with_reducible rfl)
 try simp only [Act.put, sa, sb, sc]
 refine tk 11 (oi := ⟨some 40, Op.load 27 (Operand.tmp 8), 27, _, _, some (7, false)⟩) (v := ?_) rfl ?_ ?_
 rotate_left
 ·(intro w9 hSw; (try dsimp only at hSw); go_simp; try with_reducible rfl)
 try simp only [Act.put, sa, sb, sc]
 refine tk 12 (oi := ⟨some 41, Op.load 35 (Operand.tmp 9), 35, _, _, some (7, false)⟩) (v := ?_) rfl ?_ ?_
 rotate_left
 ·(intro w9 hSw; (try dsimp only at hSw); go_simp; try with_reducible rfl)
 try simp only [Act.put, sa, sb, sc]
 refine wpAnyH_ready (rs := [10]) (by kernel_rfl) (by simp) ?_
 refine AllReadyH.cons (i := 10) (o := ⟨some 39, Op.call { callee := Callee.value (Operand.func 27), args := #[Operand.tmp 37, Operand.tmp 38], argTypes := #[27, 35] }, 9, _, _, some (7, false)⟩) rfl (fun K hK => ?_) AllReadyH.nil
 go_simp
 refine ((unhide KIS) _ (S15.bel hHeld)).mono ?_
 rintro e u9 ⟨rfl, kb⟩
 have hq := S15.call hHeld kb
 clear kb hHeld
 refine hK.out _ _ hq (fun hHeld => ?_)
 clear hK K hq
 try simp only [Act.put, sa, sb, sc]
 refine wpAnyH_ready (rs := [13]) (by kernel_rfl) (by simp) ?_
 refine AllReadyH.cons (i := 13) (o := ⟨some 42, Op.call { callee := Callee.value (Operand.func 28), args := #[Operand.tmp 40, Operand.tmp 41], argTypes := #[27, 35] }, 9, _, _, some (7, false)⟩) rfl (fun K hK => ?_) AllReadyH.nil
 go_simp
 refine ((unhide KSS) _ (S15.bel hHeld)).mono ?_
 rintro e u9 ⟨rfl, kb⟩
 have hq := S15.call hHeld kb
 clear kb hHeld
 refine hK.out _ _ hq (fun hHeld => ?_)
 clear hK K hq
 try simp only [Act.put, sa, sb, sc]
 refine tk 14 (oi := ⟨some 43, Op.binOp BinOp.neq 9 (Operand.tmp 39) (Operand.tmp 42) 9, 4, _, _, some (7, false)⟩) (v := .bool false) rfl ?_ ?_
 ·(intro w9 hSw; (try dsimp only at hSw); go_simp; first | done | (with_reducible rfl) | (simp; done) | trace_state)
 try simp only [Act.put, sa, sb, sc]
 refine tk 15 (oi := ⟨some 44, Op.pick (Operand.tmp 36) (Operand.const (Value.bool true)) (Operand.tmp 43), 4, _, _, none⟩) (v := ?_) rfl ?_ ?_
 rotate_left
 ·(intro w9 hSw; (try dsimp only at hSw); go_simp; try with_reducible rfl)
 try simp only [Act.put, sa, sb, sc]
 refine tk 16 (oi := ⟨some 45, Op.move (Operand.tmp 44), 4, _, _, none⟩) (v := ?_) rfl ?_ ?_
 rotate_left
 ·(intro w9 hSw; (try dsimp only at hSw); go_simp; try with_reducible rfl)
 try simp only [Act.put, sa, sb, sc]
 refine tk 17 (oi := ⟨some 46, Op.load 27 (Operand.tmp 5), 27, _, _, some (16, false)⟩) (v := ?_) rfl ?_ ?_
 rotate_left
 ·(intro w9 hSw; (try dsimp only at hSw); go_simp; try with_reducible rfl)
 try simp only [Act.put, sa, sb, sc]
 refine tk 18 (oi := ⟨some 47, Op.load 43 (Operand.tmp 6), 43, _, _, some (16, false)⟩) (v := ?_) rfl ?_ ?_
 rotate_left
 ·(intro w9 hSw; (try dsimp only at hSw); go_simp; try with_reducible rfl)
 try simp only [Act.put, sa, sb, sc]
 refine wpAnyH_ready (rs := [19]) (by kernel_rfl) (by simp) ?_
 refine AllReadyH.cons (i := 19) (o := ⟨some 48, Op.call { callee := Callee.value (Operand.func 29), args := #[Operand.tmp 46, Operand.tmp 47], argTypes := #[27, 43] }, 4, _, _, some (16, false)⟩) rfl (fun K hK => ?_) AllReadyH.nil
 go_simp
 refine ((unhide KA) _ (S15.bel hHeld)).mono ?_
 rintro e u9 ⟨rfl, kb⟩
 have hq := S15.call hHeld kb
 clear kb hHeld
 refine hK.out _ _ hq (fun hHeld => ?_)
 clear hK K hq
 try simp only [Act.put, sa, sb, sc]
 refine tk 20 (oi := ⟨some 49, Op.unOp UnOp.not 4 (Operand.tmp 48), 4, _, _, some (16, false)⟩) (v := ?_) rfl ?_ ?_
 rotate_left
 ·(intro w9 hSw; (try dsimp only at hSw); go_simp; try with_reducible rfl)
 try simp only [Act.put, sa, sb, sc]
 refine tk 21 (oi := ⟨some 50, Op.pick (Operand.tmp 45) (Operand.const (Value.bool true)) (Operand.tmp 49), 4, _, _, none⟩) (v := ?_) rfl ?_ ?_
 rotate_left
 ·(intro w9 hSw; (try dsimp only at hSw); go_simp; try with_reducible rfl)
 try simp only [Act.put, sa, sb, sc]
 refine tk 22 (oi := ⟨some 51, Op.move (Operand.tmp 50), 4, _, _, none⟩) (v := ?_) rfl ?_ ?_
 rotate_left
 ·(intro w9 hSw; (try dsimp only at hSw); go_simp; try with_reducible rfl)
 try simp only [Act.put, sa, sb, sc]
 refine tk 23 (oi := ⟨some 52, Op.load 27 (Operand.tmp 5), 27, _, _, some (22, false)⟩) (v := ?_) rfl ?_ ?_
 rotate_left
 ·(intro w9 hSw; (try dsimp only at hSw); go_simp; try with_reducible rfl)
 try simp only [Act.put, sa, sb, sc]
 refine tk 24 (oi := ⟨some 53, Op.load 43 (Operand.tmp 7), 43, _, _, some (22, false)⟩) (v := ?_) rfl ?_ ?_
 rotate_left
 ·(intro w9 hSw; (try dsimp only at hSw); go_simp; try with_reducible rfl)
 try simp only [Act.put, sa, sb, sc]
 refine wpAnyH_ready (rs := [25]) (by kernel_rfl) (by simp) ?_
 refine AllReadyH.cons (i := 25) (o := ⟨some 54, Op.call { callee := Callee.value (Operand.func 29), args := #[Operand.tmp 52, Operand.tmp 53], argTypes := #[27, 43] }, 4, _, _, some (22, false)⟩) rfl (fun K hK => ?_) AllReadyH.nil
 go_simp
 refine ((unhide KB) _ (S15.bel hHeld)).mono ?_
 rintro e u9 ⟨rfl, kb⟩
 have hq := S15.call hHeld kb
 clear kb hHeld
 refine hK.out _ _ hq (fun hHeld => ?_)
 clear hK K hq
 try simp only [Act.put, sa, sb, sc]
 refine tk 26 (oi := ⟨some 55, Op.unOp UnOp.not 4 (Operand.tmp 54), 4, _, _, some (22, false)⟩) (v := ?_) rfl ?_ ?_
 rotate_left
 ·(intro w9 hSw; (try dsimp only at hSw); go_simp; try with_reducible rfl)
 try simp only [Act.put, sa, sb, sc]
 refine tk 27 (oi := ⟨some 56, Op.pick (Operand.tmp 51) (Operand.const (Value.bool true)) (Operand.tmp 55), 4, _, _, none⟩) (v := ?_) rfl ?_ ?_
 rotate_left
 ·(intro w9 hSw; (try dsimp only at hSw); go_simp; try with_reducible rfl)
 try simp only [Act.put, sa, sb, sc]
 refine tk 28 (oi := ⟨some 57, Op.move (Operand.tmp 56), 4, _, _, none⟩) (v := ?_) rfl ?_ ?_
 rotate_left
 ·(intro w9 hSw; (try dsimp only at hSw); go_simp; try with_reducible rfl)
 try simp only [Act.put, sa, sb, sc]
 refine tk 29 (oi := ⟨some 58, Op.fieldAddr 43 (Operand.tmp 6) 0, 0, _, _, some (28, false)⟩) (v := ?_) rfl ?_ ?_
 rotate_left
 ·(intro w9 hSw; (try dsimp only at hSw); go_simp; try with_reducible rfl)
 try simp only [Act.put, sa, sb, sc]
 refine tk 30 (oi := ⟨some 59, Op.load 4 (Operand.tmp 58), 4, _, _, some (28, false)⟩) (v := ?_) rfl ?_ ?_
 rotate_left
 ·(intro w9 hSw; (try dsimp only at hSw); go_simp; try with_reducible rfl)
 try simp only [Act.put, sa, sb, sc]
 refine tk 31 (oi := ⟨some 60, Op.unOp UnOp.not 4 (Operand.tmp 59), 4, _, _, some (28, false)⟩) (v := ?_) rfl ?_ ?_
 rotate_left
 ·(intro w9 hSw; (try dsimp only at hSw); go_simp; try with_reducible rfl)
 try simp only [Act.put, sa, sb, sc]
 refine tk 32 (oi := ⟨some 61, Op.pick (Operand.tmp 57) (Operand.const (Value.bool true)) (Operand.tmp 60), 4, _, _, none⟩) (v := ?_) rfl ?_ ?_
 rotate_left
 ·(intro w9 hSw; (try dsimp only at hSw); go_simp; try with_reducible rfl)
 try simp only [Act.put, sa, sb, sc]
 refine wpAnyH_done (by kernel_rfl) ?_ _
 have HK := hide (S15.bel hHeld)
 clear hHeld
 generalize u9 = ur at HK ⊢
 go_upto_region 7 with fail
 have HBX := hide (show B3 u1 u1.heap.size (.slice a1 vs.length c1) (.slice a2 fs.length c2) (.slice a3 rs.length c3) (.bool true) (.slice oa xs.length ca) (.slice ob ys.length cb) (.bool lj) (.slice oc xs2.length cc) (.slice od ys2.length cd) ur from (unhide HBX).call (unhide HK))
 have HRW := hide ((unhide HRW).call (unhide HK))
 have HP := hide ((unhide HP).call (unhide HK))
 have HB := hide ((unhide HB).trans ((unhide HK).mono (unhide HB).size))
 clear HBT HRT KIE KSE KIS KSS KA KB HK HTG HZT
 have q0 := (unhide HBX).1.1
 have q1 := (unhide HBX).1.2.1
 have q2 := (unhide HBX).1.2.2.1
 have q3 := (unhide HBX).2.1.1
 have q4 := (unhide HBX).2.1.2.1
 have q5 := (unhide HBX).2.1.2.2.1
 go_wp2_with fail
 refine (inside_c a1 a2 a3 c1 c2 c3 vs fs rs oa ob ca cb xs ys a0 len0 cap0 _ (unhide HRW).2.1 (unhide HRW).2.2.1 (unhide HRW).2.2.2.1 (unhide HZ) (unhide HRW).2.2.2.2.1 (unhide HRW).2.2.2.2.2.1 ((unhide CD).below (unhide HB)) (unhide HA) (unhide HIN)).mono ?_
 rintro e v1 ⟨ia, ib, ic, ja, jb, jc, B1, T, gs, is, bs, js, rfl, hsw, hF, h1, h2, kb⟩
 have HSA := hide (in_store (unhide HA) hsw hF h1 h2 (unhide HIN).1 (unhide HIN).2)
 clear hsw hF h1 h2 q0 q1 q2 q3 q4 q5
 have HBX := hide ((unhide HBX).call kb)
 have HRW := hide ((unhide HRW).call kb)
 have HP := hide ((unhide HP).call kb)
 have HB := hide ((unhide HB).trans (kb.mono (unhide HB).size))
 clear kb
 have HGA := hide (C3.new v1 (.slice ia is.length ja) (.slice ib bs.length jb) (.slice ic js.length jc) 35)
 have ka := (Below.refl _ v1).alloc (Nat.le_refl _) (Obj.cells #[.slice ia is.length ja, .slice ib bs.length jb, .slice ic js.length jc] 35)
 have HBX := hide ((unhide HBX).call ka)
 have HRW := hide ((unhide HRW).call ka)
 have HP := hide ((unhide HP).call ka)
 have HB := hide ((unhide HB).trans (ka.mono (unhide HB).size))
 have HSA := hide (And.intro ((unhide HSA).1.call ka) (unhide HSA).2)
 go_upto_region 8 with fail
 generalize v1.alloc (Obj.cells #[.slice ia is.length ja, .slice ib bs.length jb, .slice ic js.length jc] 35) = v2 at HBX HRW HP HB HGA HSA ⊢
 clear ka
 have q0 := (unhide HBX).1.1
 have q1 := (unhide HBX).1.2.1
 have q2 := (unhide HBX).1.2.2.1
 have q3 := (unhide HBX).2.1.1
 have q4 := (unhide HBX).2.1.2.1
 have q5 := (unhide HBX).2.1.2.2.1
 go_wp2_with fail
 refine (inside_c a1 a2 a3 c1 c2 c3 vs fs rs oa ob ca cb xs ys m0 len1 cap1 _ (unhide HRW).2.1 (unhide HRW).2.2.1 (unhide HRW).2.2.2.1 (unhide HZ) (unhide HRW).2.2.2.2.1 (unhide HRW).2.2.2.2.2.1 ((unhide CM).below (unhide HB)) (unhide HA) (unhide HIN)).mono ?_
 rintro e v3 ⟨ha, hb, hc, la, lb, lc, B2, T2, gt, iu, bu, ju, rfl, hsw, hF, h1, h2, kb⟩
 have HSB := hide (in_store (unhide HA) hsw hF h1 h2 (unhide HIN).1 (unhide HIN).2)
 clear hsw hF h1 h2 q0 q1 q2 q3 q4 q5
 have HBX := hide ((unhide HBX).call kb)
 have HRW := hide ((unhide HRW).call kb)
 have HP := hide ((unhide HP).call kb)
 have HB := hide ((unhide HB).trans (kb.mono (unhide HB).size))
 have HGA := hide ((unhide HGA).call kb)
 have HSA := hide (And.intro ((unhide HSA).1.call kb) (unhide HSA).2)
 clear kb
 have HGB := hide (C3.new v3 (.slice ha iu.length la) (.slice hb bu.length lb) (.slice hc ju.length lc) 35)
 have ka := (Below.refl _ v3).alloc (Nat.le_refl _) (Obj.cells #[.slice ha iu.length la, .slice hb bu.length lb, .slice hc ju.length lc] 35)
 have HBX := hide ((unhide HBX).call ka)
 have HRW := hide ((unhide HRW).call ka)
 have HP := hide ((unhide HP).call ka)
 have HB := hide ((unhide HB).trans (ka.mono (unhide HB).size))
 have HSB := hide (And.intro ((unhide HSB).1.call ka) (unhide HSB).2)
 have HGA := hide ((unhide HGA).call ka)
 have HSA := hide (And.intro ((unhide HSA).1.call ka) (unhide HSA).2)
 go_upto_region 9 with fail
 generalize v3.alloc (Obj.cells #[.slice ha iu.length la, .slice hb bu.length lb, .slice hc ju.length lc] 35) = v4 at HBX HRW HP HB HGB HSB HGA HSA ⊢
 clear ka
 have eA := unhide HA
 have eB := unhide HBB
 have sA := (unhide HSA).2.1
 have sB := (unhide HSB).2.1
 have KE : Hid (∀ w, Below v4.heap.size v4 w → Calls Tryd.prog 25 #[.agg #[.slice a1 vs.length c1, .slice a2 fs.length c2, .slice a3 rs.length c3], .agg #[.bool true, .slice oa xs.length ca, .slice ob ys.length cb]] w fun e w' => e = .returned (.string (envT true vs rs xs ys)) ∧ Below w.heap.size w w') := fun w k => by
  have q := iEnvText_c a1 a2 a3 c1 c2 c3 vs fs rs true oa ob ca cb xs ys w ((unhide HRW).1.call k) ((unhide HP).call k) ((unhide HRW).2.1.call k) ((unhide HRW).2.2.1.call k) ((unhide HRW).2.2.2.1.call k) (unhide HZ) ((unhide HRW).2.2.2.2.1.call k) ((unhide HRW).2.2.2.2.2.1.call k) (unhide HIN).1.toP (unhide HIN).2.toP
  rw [if_pos eA] at q
  exact q
 have KF : Hid (∀ w, Below v4.heap.size v4 w → Calls Tryd.prog 25 #[.agg #[.slice a1 vs.length c1, .slice a2 fs.length c2, .slice a3 rs.length c3], .agg #[.bool lj, .slice oc xs2.length cc, .slice od ys2.length cd]] w fun e w' => e = .returned (.string (envT lj vs rs xs2 ys2)) ∧ Below w.heap.size w w') := fun w k => by
  have q := iEnvText_c a1 a2 a3 c1 c2 c3 vs fs rs lj oc od cc cd xs2 ys2 w ((unhide HRW).1.call k) ((unhide HP).call k) ((unhide HRW).2.1.call k) ((unhide HRW).2.2.1.call k) ((unhide HRW).2.2.2.1.call k) (unhide HZ) ((unhide HRW).2.2.2.2.2.2.1.call k) ((unhide HRW).2.2.2.2.2.2.2.call k) (unhide HIM).1.toP (unhide HIM).2.toP
  rw [if_pos eB] at q
  exact q
 have KSE : Hid (∀ w, Below v4.heap.size v4 w → Calls Tryd.prog 30 #[.agg #[.bool true, .slice oa xs.length ca, .slice ob ys.length cb], .agg #[.bool lj, .slice oc xs2.length cc, .slice od ys2.length cd]] w fun e w' => e = .returned (.bool (samB true xs ys lj xs2 ys2)) ∧ Below w.heap.size w w') := fun w k => by
  have q := sameEnv_c true oa ob ca cb xs ys lj oc od cc cd xs2 ys2 w ((unhide HRW).2.2.2.2.1.call k) ((unhide HRW).2.2.2.2.2.1.call k) ((unhide HRW).2.2.2.2.2.2.1.call k) ((unhide HRW).2.2.2.2.2.2.2.call k)
  exact q
 have KTA : Hid (∀ w, Below v4.heap.size v4 w → Calls Tryd.prog 27 #[.agg #[.slice a1 vs.length c1, .slice a2 fs.length c2, .slice a3 rs.length c3], .agg #[.slice ia is.length ja, .slice ib bs.length jb, .slice ic js.length jc]] w fun e w' => e = .returned (.string (jnS (stW vs fs rs is bs js))) ∧ Below w.heap.size w w') := fun w k => by
  have q := iStoreText_c a1 a2 a3 c1 c2 c3 vs fs rs ia ib ic ja jb jc is bs js w ((unhide HRW).1.call k) ((unhide HP).call k) ((unhide HRW).2.1.call k) ((unhide HRW).2.2.1.call k) ((unhide HRW).2.2.2.1.call k) (unhide HZ) ((unhide HSA).1.1.call k) ((unhide HSA).1.2.1.call k) ((unhide HSA).1.2.2.call k) (unhide HSA).2.2.1 (unhide HSA).2.2.2.1
  rw [if_pos sA] at q
  exact q
 have KTB : Hid (∀ w, Below v4.heap.size v4 w → Calls Tryd.prog 27 #[.agg #[.slice a1 vs.length c1, .slice a2 fs.length c2, .slice a3 rs.length c3], .agg #[.slice ha iu.length la, .slice hb bu.length lb, .slice hc ju.length lc]] w fun e w' => e = .returned (.string (jnS (stW vs fs rs iu bu ju))) ∧ Below w.heap.size w w') := fun w k => by
  have q := iStoreText_c a1 a2 a3 c1 c2 c3 vs fs rs ha hb hc la lb lc iu bu ju w ((unhide HRW).1.call k) ((unhide HP).call k) ((unhide HRW).2.1.call k) ((unhide HRW).2.2.1.call k) ((unhide HRW).2.2.2.1.call k) (unhide HZ) ((unhide HSB).1.1.call k) ((unhide HSB).1.2.1.call k) ((unhide HSB).1.2.2.call k) (unhide HSB).2.2.1 (unhide HSB).2.2.2.1
  rw [if_pos sB] at q
  exact q
 have KSS : Hid (∀ w, Below v4.heap.size v4 w → Calls Tryd.prog 31 #[.agg #[.slice ia is.length ja, .slice ib bs.length jb, .slice ic js.length jc], .agg #[.slice ha iu.length la, .slice hb bu.length lb, .slice hc ju.length lc]] w fun e w' => e = .returned (.bool (samS is iu bs bu js ju)) ∧ Below w.heap.size w w') := fun w k => by
  have q := sameStore_c ia ib ic ha hb hc ja jb jc la lb lc is iu bs bu js ju w ((unhide HSA).1.1.call k) ((unhide HSA).1.2.1.call k) ((unhide HSA).1.2.2.call k) ((unhide HSB).1.1.call k) ((unhide HSB).1.2.1.call k) ((unhide HSB).1.2.2.call k) ((unhide HSA).2.2.2.2.1.trans (unhide HSB).2.2.2.2.1.symm) ((unhide HSA).2.2.2.2.2.trans (unhide HSB).2.2.2.2.2.symm)
  exact q
 have hr1 := env_texts eA eB
 have hr2 := store_texts sA sB
 clear eA eB sA sB
 obtain ⟨tE, hE⟩ : ∃ r, envT true vs rs xs ys = r := ⟨_, rfl⟩
 obtain ⟨tF, hF⟩ : ∃ r, envT lj vs rs xs2 ys2 = r := ⟨_, rfl⟩
 obtain ⟨tA, hA⟩ : ∃ r, jnS (stW vs fs rs is bs js) = r := ⟨_, rfl⟩
 obtain ⟨tB, hB⟩ : ∃ r, jnS (stW vs fs rs iu bu ju) = r := ⟨_, rfl⟩
 rw [hE] at KE hr1
 rw [hF] at KF hr1
 rw [hA] at KTA hr2
 rw [hB] at KTB hr2
 clear hE hF hA hB
 obtain ⟨r1, e1⟩ : ∃ r, samB true xs ys lj xs2 ys2 = r := ⟨_, rfl⟩
 obtain ⟨r2, e2⟩ : ∃ r, samS is iu bs bu js ju = r := ⟨_, rfl⟩
 rw [e1] at KSE hr1
 rw [e2] at KSS hr2
 clear e1 e2
 have HR1 := hide hr1
 have HR2 := hide hr2
 clear hr1 hr2
 refine wp_region_held_drew (S := (S15 v4 u1.heap.size v1.heap.size v3.heap.size (.slice a1 vs.length c1) (.slice a2 fs.length c2) (.slice a3 rs.length c3) (.bool true) (.slice oa xs.length ca) (.slice ob ys.length cb) (.bool lj) (.slice oc xs2.length cc) (.slice od ys2.length cd) (.slice ia is.length ja) (.slice ib bs.length jb) (.slice ic js.length jc) (.slice ha iu.length la) (.slice hb bu.length lb) (.slice hc ju.length lc))) (by kernel_rfl) (S15.drew (S15.of (unhide HBX).1 (unhide HBX).2.1 (unhide HBX).2.2.1 (unhide HGA) (unhide HGB) (Below.refl _ v4))) (fun hHeld => ?_)
 refine tk 0 (oi := ⟨some 86, Op.load 27 (Operand.tmp 5), 27, _, _, none⟩) (v := ?_) rfl ?_ ?_
 rotate_left
 ·(intro w9 hSw; (try dsimp only at hSw); go_simp; try with_reducible rfl)
 try simp only [Act.put, sa, sb, sc]
 refine tk 1 (oi := ⟨some 87, Op.load 43 (Operand.tmp 6), 43, _, _, none⟩) (v := ?_) rfl ?_ ?_
 rotate_left
 ·(intro w9 hSw; (try dsimp only at hSw); go_simp; try with_reducible rfl)
 try simp only [Act.put, sa, sb, sc]
 refine tk 3 (oi := ⟨some 89, Op.load 27 (Operand.tmp 5), 27, _, _, none⟩) (v := ?_) rfl ?_ ?_
 rotate_left
 ·(intro w9 hSw; (try dsimp only at hSw); go_simp; try with_reducible rfl)
 try simp only [Act.put, sa, sb, sc]
 refine tk 4 (oi := ⟨some 90, Op.load 43 (Operand.tmp 7), 43, _, _, none⟩) (v := ?_) rfl ?_ ?_
 rotate_left
 ·(intro w9 hSw; (try dsimp only at hSw); go_simp; try with_reducible rfl)
 try simp only [Act.put, sa, sb, sc]
 refine tk 7 (oi := ⟨some 93, Op.load 43 (Operand.tmp 6), 43, _, _, none⟩) (v := ?_) rfl ?_ ?_
 rotate_left
 ·(intro w9 hSw; (try dsimp only at hSw); go_simp; try with_reducible rfl)
 try simp only [Act.put, sa, sb, sc]
 refine tk 8 (oi := ⟨some 94, Op.load 43 (Operand.tmp 7), 43, _, _, none⟩) (v := ?_) rfl ?_ ?_
 rotate_left
 ·(intro w9 hSw; (try dsimp only at hSw); go_simp; try with_reducible rfl)
 try simp only [Act.put, sa, sb, sc]
 refine wpAnyH_ready (rs := [2]) (by kernel_rfl) (by simp) ?_
 refine AllReadyH.cons (i := 2) (o := ⟨some 88, Op.call { callee := Callee.value (Operand.func 25), args := #[Operand.tmp 86, Operand.tmp 87], argTypes := #[27, 43] }, 9, _, _, none⟩) rfl (fun K hK => ?_) AllReadyH.nil
 go_simp
 refine ((unhide KE) _ (S15.bel hHeld)).mono ?_
 rintro e u9 ⟨rfl, kb⟩
 have hq := S15.call hHeld kb
 clear kb hHeld
 refine hK.out _ _ hq (fun hHeld => ?_)
 clear hK K hq
 try simp only [Act.put, sa, sb, sc]
 refine wpAnyH_ready (rs := [5]) (by kernel_rfl) (by simp) ?_
 refine AllReadyH.cons (i := 5) (o := ⟨some 91, Op.call { callee := Callee.value (Operand.func 25), args := #[Operand.tmp 89, Operand.tmp 90], argTypes := #[27, 43] }, 9, _, _, none⟩) rfl (fun K hK => ?_) AllReadyH.nil
 go_simp
 refine ((unhide KF) _ (S15.bel hHeld)).mono ?_
 rintro e u9 ⟨rfl, kb⟩
 have hq := S15.call hHeld kb
 clear kb hHeld
 refine hK.out _ _ hq (fun hHeld => ?_)
 clear hK K hq
 try simp only [Act.put, sa, sb, sc]
 refine tk 6 (oi := ⟨some 92, Op.binOp BinOp.eql 9 (Operand.tmp 88) (Operand.tmp 91) 9, 4, _, _, none⟩) (v := .bool r1) rfl ?_ ?_
 ·(intro w9 hSw; (try dsimp only at hSw); go_simp; first | done | (with_reducible rfl) | (exact unhide HR1; done) | trace_state)
 try simp only [Act.put, sa, sb, sc]
 refine wpAnyH_ready (rs := [9]) (by kernel_rfl) (by simp) ?_
 refine AllReadyH.cons (i := 9) (o := ⟨some 95, Op.call { callee := Callee.value (Operand.func 30), args := #[Operand.tmp 93, Operand.tmp 94], argTypes := #[43, 43] }, 4, _, _, none⟩) rfl (fun K hK => ?_) AllReadyH.nil
 go_simp
 refine ((unhide KSE) _ (S15.bel hHeld)).mono ?_
 rintro e u9 ⟨rfl, kb⟩
 have hq := S15.call hHeld kb
 clear kb hHeld
 refine hK.out _ _ hq (fun hHeld => ?_)
 clear hK K hq
 try simp only [Act.put, sa, sb, sc]
 refine tk 10 (oi := ⟨some 96, Op.binOp BinOp.eql 4 (Operand.tmp 92) (Operand.tmp 95) 4, 4, _, _, none⟩) (v := .bool true) rfl ?_ ?_
 ·(intro w9 hSw; (try dsimp only at hSw); go_simp; first | done | (with_reducible rfl) | (simp; done) | trace_state)
 try simp only [Act.put, sa, sb, sc]
 refine tk 11 (oi := ⟨some 97, Op.move (Operand.tmp 96), 4, _, _, none⟩) (v := ?_) rfl ?_ ?_
 rotate_left
 ·(intro w9 hSw; (try dsimp only at hSw); go_simp; try with_reducible rfl)
 try simp only [Act.put, sa, sb, sc]
 refine tk 12 (oi := ⟨some 98, Op.load 27 (Operand.tmp 5), 27, _, _, some (11, true)⟩) (v := ?_) rfl ?_ ?_
 rotate_left
 ·(intro w9 hSw; (try dsimp only at hSw); go_simp; try with_reducible rfl)
 try simp only [Act.put, sa, sb, sc]
 refine tk 13 (oi := ⟨some 99, Op.load 35 (Operand.tmp 10), 35, _, _, some (11, true)⟩) (v := ?_) rfl ?_ ?_
 rotate_left
 ·(intro w9 hSw; (try dsimp only at hSw); go_simp; try with_reducible rfl)
 try simp only [Act.put, sa, sb, sc]
 refine tk 15 (oi := ⟨some 101, Op.load 27 (Operand.tmp 5), 27, _, _, some (11, true)⟩) (v := ?_) rfl ?_ ?_
 rotate_left
 ·(intro w9 hSw; (try dsimp only at hSw); go_simp; try with_reducible rfl)
 try simp only [Act.put, sa, sb, sc]
 refine tk 16 (oi := ⟨some 102, Op.load 35 (Operand.tmp 11), 35, _, _, some (11, true)⟩) (v := ?_) rfl ?_ ?_
 rotate_left
 ·(intro w9 hSw; (try dsimp only at hSw); go_simp; try with_reducible rfl)
 try simp only [Act.put, sa, sb, sc]
 refine tk 19 (oi := ⟨some 105, Op.load 35 (Operand.tmp 10), 35, _, _, some (11, true)⟩) (v := ?_) rfl ?_ ?_
 rotate_left
 ·(intro w9 hSw; (try dsimp only at hSw); go_simp; try with_reducible rfl)
 try simp only [Act.put, sa, sb, sc]
 refine tk 20 (oi := ⟨some 106, Op.load 35 (Operand.tmp 11), 35, _, _, some (11, true)⟩) (v := ?_) rfl ?_ ?_
 rotate_left
 ·(intro w9 hSw; (try dsimp only at hSw); go_simp; try with_reducible rfl)
 try simp only [Act.put, sa, sb, sc]
 refine wpAnyH_ready (rs := [14]) (by kernel_rfl) (by simp) ?_
 refine AllReadyH.cons (i := 14) (o := ⟨some 100, Op.call { callee := Callee.value (Operand.func 27), args := #[Operand.tmp 98, Operand.tmp 99], argTypes := #[27, 35] }, 9, _, _, some (11, true)⟩) rfl (fun K hK => ?_) AllReadyH.nil
 go_simp
 refine ((unhide KTA) _ (S15.bel hHeld)).mono ?_
 rintro e u9 ⟨rfl, kb⟩
 have hq := S15.call hHeld kb
 clear kb hHeld
 refine hK.out _ _ hq (fun hHeld => ?_)
 clear hK K hq
 try simp only [Act.put, sa, sb, sc]
 refine wpAnyH_ready (rs := [17]) (by kernel_rfl) (by simp) ?_
 refine AllReadyH.cons (i := 17) (o := ⟨some 103, Op.call { callee := Callee.value (Operand.func 27), args := #[Operand.tmp 101, Operand.tmp 102], argTypes := #[27, 35] }, 9, _, _, some (11, true)⟩) rfl (fun K hK => ?_) AllReadyH.nil
 go_simp
 refine ((unhide KTB) _ (S15.bel hHeld)).mono ?_
 rintro e u9 ⟨rfl, kb⟩
 have hq := S15.call hHeld kb
 clear kb hHeld
 refine hK.out _ _ hq (fun hHeld => ?_)
 clear hK K hq
 try simp only [Act.put, sa, sb, sc]
 refine tk 18 (oi := ⟨some 104, Op.binOp BinOp.eql 9 (Operand.tmp 100) (Operand.tmp 103) 9, 4, _, _, some (11, true)⟩) (v := .bool r2) rfl ?_ ?_
 ·(intro w9 hSw; (try dsimp only at hSw); go_simp; first | done | (with_reducible rfl) | (exact unhide HR2; done) | trace_state)
 try simp only [Act.put, sa, sb, sc]
 refine wpAnyH_ready (rs := [21]) (by kernel_rfl) (by simp) ?_
 refine AllReadyH.cons (i := 21) (o := ⟨some 107, Op.call { callee := Callee.value (Operand.func 31), args := #[Operand.tmp 105, Operand.tmp 106], argTypes := #[35, 35] }, 4, _, _, some (11, true)⟩) rfl (fun K hK => ?_) AllReadyH.nil
 go_simp
 refine ((unhide KSS) _ (S15.bel hHeld)).mono ?_
 rintro e u9 ⟨rfl, kb⟩
 have hq := S15.call hHeld kb
 clear kb hHeld
 refine hK.out _ _ hq (fun hHeld => ?_)
 clear hK K hq
 try simp only [Act.put, sa, sb, sc]
 refine tk 22 (oi := ⟨some 108, Op.binOp BinOp.eql 4 (Operand.tmp 104) (Operand.tmp 107) 4, 4, _, _, some (11, true)⟩) (v := .bool true) rfl ?_ ?_
 ·(intro w9 hSw; (try dsimp only at hSw); go_simp; first | done | (with_reducible rfl) | (simp; done) | trace_state)
 try simp only [Act.put, sa, sb, sc]
 refine tk 23 (oi := ⟨some 109, Op.pick (Operand.tmp 97) (Operand.tmp 108) (Operand.const (Value.bool false)), 4, _, _, none⟩) (v := ?_) rfl ?_ ?_
 rotate_left
 ·(intro w9 hSw; (try dsimp only at hSw); go_simp; try with_reducible rfl)
 try simp only [Act.put, sa, sb, sc]
 refine tk 24 (oi := ⟨some 4, Op.assign (Operand.tmp 109), 4, _, _, none⟩) (v := ?_) rfl ?_ ?_
 rotate_left
 ·(intro w9 hSw; (try dsimp only at hSw); go_simp; try with_reducible rfl)
 try simp only [Act.put, sa, sb, sc]
 refine wpAnyH_done (by kernel_rfl) ?_ _
 have HB := hide ((unhide HB).trans ((S15.bel hHeld).mono (unhide HB).size))
 clear hHeld
 go_wp2
 go_ret
 exact ⟨by first | rfl | (simp; done), unhide HB⟩
end Go.Proofs.YtpdnnpnclgcpoaaDoor
