/- What is set is just that: the walk of the law. -/
import Derived.Test.YthpnbmdmkmkicaaDoorOrdK
import Derived.Test.YthpnbmdmkmkicaaDoorDjZ
import Derived.Test.YthpnbmdmkmkicaaDoorSetE
namespace Go.Proofs.YthpnbmdmkmkicaaDoor
open Go.RowKit Go.Iv
set_option linter.unusedSimpArgs false
set_option linter.unusedVariables false

theorem fut_trans' {u v w : World} (h : Below u.heap.size u v) (k : Below v.heap.size v w) : Below u.heap.size u w := h.trans (k.mono h.size)
def Ans3' (l : Bool) (X Y : List (Int × Int)) (w : World) (e : Ending) (w' : World) : Prop := ∃ oj cj ok ck, e = .returned (.agg #[.bool l, .slice oj X.length cj, .slice ok Y.length ck]) ∧ RowsE w' w.heap.size oj cj ok ck X Y ∧ Below w.heap.size w w'
/-- The boxes of a declaration, bounds, an interval, and an answer. -/
@[reducible] def S11 (w0 : World) (b p : Nat) (x0 x1 x2 y0 y1 y2 z0 z1 z2 : Value) (l g : Int) (u : World) : Prop :=
  u.cell? ⟨b, 0, none⟩ = some x0 ∧ u.cell? ⟨b, 1, none⟩ = some x1 ∧ u.cell? ⟨b, 2, none⟩ = some x2 ∧ u.cell? ⟨b + 1, 0, none⟩ = some y0 ∧ u.cell? ⟨b + 1, 1, none⟩ = some y1 ∧ u.cell? ⟨b + 1, 2, none⟩ = some y2 ∧ u.cell? ⟨b + 2, 0, none⟩ = some (.int .i64 l) ∧ u.cell? ⟨b + 2, 1, none⟩ = some (.int .i64 g) ∧
  u.cell? ⟨p, 0, none⟩ = some z0 ∧ u.cell? ⟨p, 1, none⟩ = some z1 ∧ u.cell? ⟨p, 2, none⟩ = some z2 ∧ Hid (Below w0.heap.size w0 u)
theorem S11.of {w0 u : World} {b p : Nat} {x0 x1 x2 y0 y1 y2 z0 z1 z2 : Value} {l g : Int} (h : C3 w0 b x0 x1 x2) (h1 : C3 w0 (b + 1) y0 y1 y2) (h2 : CI w0 (b + 2) l g) (h3 : C3 w0 p z0 z1 z2) (k : Below w0.heap.size w0 u) : S11 w0 b p x0 x1 x2 y0 y1 y2 z0 z1 z2 l g u := by
  have q := h.call k
  have q1 := h1.call k
  have q2 := h2.call k
  have q3 := h3.call k
  exact ⟨q.1, q.2.1, q.2.2.1, q1.1, q1.2.1, q1.2.2.1, q2.1, q2.2.1, q3.1, q3.2.1, q3.2.2.1, hide k⟩
theorem S11.bel {w0 u : World} {b p : Nat} {x0 x1 x2 y0 y1 y2 z0 z1 z2 : Value} {l g : Int} (h : S11 w0 b p x0 x1 x2 y0 y1 y2 z0 z1 z2 l g u) : Below w0.heap.size w0 u := unhide h.2.2.2.2.2.2.2.2.2.2.2
section
variable {vs fs : List ByteArray} {rs : List (ByteArray × Int)} {li : Bool} {xs ys : List (Int × Int)} {p l g : Int}
theorem set_good (h : setOk vs fs rs li xs ys p l g = true) : ∃ k : Nat, p = (k : Int) ∧ k < xs.length ∧ setX vs fs rs li xs ys p l g = xs.set k (l, g) ∧ setY vs fs rs li xs ys p l g = ys ∧ (xs.length ≤ 5 ∧ ys.length ≤ 2) := by
  have h0 := h
  unfold setOk at h0
  simp only [Bool.and_eq_true, decide_eq_true_eq] at h0
  obtain ⟨h1, h2, ⟨h3, h4⟩, h5⟩ := h0
  subst h2
  have hl := (env_live h1).1
  refine ⟨p.toNat, by omega, by omega, ?_, ?_, env_few h1⟩
  · unfold setX; rw [if_pos h]
  · unfold setY; rw [if_pos h]
theorem set_len (M : Nat) (h : xs.length ≤ M ∧ ys.length ≤ M) : (setX vs fs rs li xs ys p l g).length ≤ M ∧ (setY vs fs rs li xs ys p l g).length ≤ M := by
  unfold setX setY
  split
  · simp; omega
  · simp
end
theorem ivs_cell {u : World} {a : Option Addr} {xs : List (Int × Int)} (h : Ivs u a xs) (k : Nat) (hk : k < xs.length) : ∃ cb co, a = some ⟨cb, co, none⟩ ∧ u.cell? ⟨cb, co + k * 2, none⟩ = some (.int .i64 xs[k].1) ∧ u.cell? ⟨cb, co + k * 2 + 1, none⟩ = some (.int .i64 xs[k].2) := by
  rcases h.2 with h0 | ⟨cb, co, e, hc⟩
  · omega
  · exact ⟨cb, co, e, hc k hk⟩
set_option maxRecDepth 20000 in
set_option maxHeartbeats 32000000 in
theorem lawFnSet (a0 : Option Addr) (len0 cap0 : Nat) (z0 : List Int) (w : World) (hw : KW w) (w0 : IsRow .u8 w a0 len0 cap0 z0) :
    Calls Tryd.prog 4 #[.slice a0 len0 cap0] w fun e w' => e = .returned (.bool true) ∧ Below w.heap.size w w' := by
  have HW := hide hw
  clear hw
  by_cases hbig : 1048576 < len0
  · have hm := row_len w0
    clear w0
    go_enter Tryd.func4, Tryd.ntmps4
    go_wp2_with fail
    refine (big_yes _ _ _ hbig hm _).mono ?_
    rintro e w' ⟨rfl, rfl⟩
    go_wp2
    go_ret
    exact ⟨rfl, Below.refl _ _⟩
  have hs : len0 ≤ 1048576 := by omega
  have CD := hide (code_of_row w0 hs)
  clear w0 hbig
  go_enter Tryd.func4, Tryd.ntmps4
  go_wp2_with fail
  refine (big_c _ _ _ hs _).mono ?_
  rintro e w' ⟨rfl, rfl⟩
  go_wp2_with fail
  refine (DrawEnvSet_c _ _ _ _ (unhide CD)).mono ?_
  rintro e u1 ⟨a1, a2, a3, c1, c2, c3, vs, fs, rs, li, oa, ca, ob, cb, xs, ys, p, l, g, rfl, s1, s2, s3, hz, ⟨i1, i2⟩, _, ⟨ip, _, _⟩, kb⟩
  have LL := hide (show xs.length ≤ 1048576 ∧ ys.length ≤ 1048576 from ⟨i1.1, i2.1⟩)
  have HRW := hide (show KW u1 ∧ Strs u1 a1 vs ∧ Strs u1 a2 fs ∧ Arrs u1 a3 rs ∧ Ivs u1 oa xs ∧ Ivs u1 ob ys from ⟨(unhide HW).call kb, s1, s2, s3, i1, i2⟩)
  have HZ := hide hz
  have HB := hide kb
  clear s1 s2 s3 hz i1 i2 kb ip
  have b1 := ((C3.new u1 (.slice a1 vs.length c1) (.slice a2 fs.length c2) (.slice a3 rs.length c3) 27).alloc (Obj.cells #[.bool li, .slice oa xs.length ca, .slice ob ys.length cb] 30)).alloc (Obj.cells #[.int .i64 l, .int .i64 g] 47)
  have b2 := (C3.new (u1.alloc (Obj.cells #[.slice a1 vs.length c1, .slice a2 fs.length c2, .slice a3 rs.length c3] 27)) (.bool li) (.slice oa xs.length ca) (.slice ob ys.length cb) 30).alloc (Obj.cells #[.int .i64 l, .int .i64 g] 47)
  have b3 := CI.new ((u1.alloc (Obj.cells #[.slice a1 vs.length c1, .slice a2 fs.length c2, .slice a3 rs.length c3] 27)).alloc (Obj.cells #[.bool li, .slice oa xs.length ca, .slice ob ys.length cb] 30)) l g 47
  rw [show (u1.alloc (Obj.cells #[.slice a1 vs.length c1, .slice a2 fs.length c2, .slice a3 rs.length c3] 27)).heap.size = u1.heap.size + 1 by simp] at b2
  rw [show ((u1.alloc (Obj.cells #[.slice a1 vs.length c1, .slice a2 fs.length c2, .slice a3 rs.length c3] 27)).alloc (Obj.cells #[.bool li, .slice oa xs.length ca, .slice ob ys.length cb] 30)).heap.size = u1.heap.size + 2 by simp] at b3
  have ka := (((Below.refl _ u1).alloc (Nat.le_refl _) (Obj.cells #[.slice a1 vs.length c1, .slice a2 fs.length c2, .slice a3 rs.length c3] 27)).alloc (by simp) (Obj.cells #[.bool li, .slice oa xs.length ca, .slice ob ys.length cb] 30)).alloc (by simp; omega) (Obj.cells #[.int .i64 l, .int .i64 g] 47)
  have HRW := hide (show KW (((u1.alloc (Obj.cells #[.slice a1 vs.length c1, .slice a2 fs.length c2, .slice a3 rs.length c3] 27)).alloc (Obj.cells #[.bool li, .slice oa xs.length ca, .slice ob ys.length cb] 30)).alloc (Obj.cells #[.int .i64 l, .int .i64 g] 47)) ∧ Strs (((u1.alloc (Obj.cells #[.slice a1 vs.length c1, .slice a2 fs.length c2, .slice a3 rs.length c3] 27)).alloc (Obj.cells #[.bool li, .slice oa xs.length ca, .slice ob ys.length cb] 30)).alloc (Obj.cells #[.int .i64 l, .int .i64 g] 47)) a1 vs ∧ Strs (((u1.alloc (Obj.cells #[.slice a1 vs.length c1, .slice a2 fs.length c2, .slice a3 rs.length c3] 27)).alloc (Obj.cells #[.bool li, .slice oa xs.length ca, .slice ob ys.length cb] 30)).alloc (Obj.cells #[.int .i64 l, .int .i64 g] 47)) a2 fs ∧ Arrs (((u1.alloc (Obj.cells #[.slice a1 vs.length c1, .slice a2 fs.length c2, .slice a3 rs.length c3] 27)).alloc (Obj.cells #[.bool li, .slice oa xs.length ca, .slice ob ys.length cb] 30)).alloc (Obj.cells #[.int .i64 l, .int .i64 g] 47)) a3 rs ∧ Ivs (((u1.alloc (Obj.cells #[.slice a1 vs.length c1, .slice a2 fs.length c2, .slice a3 rs.length c3] 27)).alloc (Obj.cells #[.bool li, .slice oa xs.length ca, .slice ob ys.length cb] 30)).alloc (Obj.cells #[.int .i64 l, .int .i64 g] 47)) oa xs ∧ Ivs (((u1.alloc (Obj.cells #[.slice a1 vs.length c1, .slice a2 fs.length c2, .slice a3 rs.length c3] 27)).alloc (Obj.cells #[.bool li, .slice oa xs.length ca, .slice ob ys.length cb] 30)).alloc (Obj.cells #[.int .i64 l, .int .i64 g] 47)) ob ys from ⟨(unhide HRW).1.call ka, (unhide HRW).2.1.call ka, (unhide HRW).2.2.1.call ka, (unhide HRW).2.2.2.1.call ka, (unhide HRW).2.2.2.2.1.call ka, (unhide HRW).2.2.2.2.2.call ka⟩)
  have HB := hide ((unhide HB).trans (ka.mono (unhide HB).size))
  go_upto_region 4 with fail
  generalize ((u1.alloc (Obj.cells #[.slice a1 vs.length c1, .slice a2 fs.length c2, .slice a3 rs.length c3] 27)).alloc (Obj.cells #[.bool li, .slice oa xs.length ca, .slice ob ys.length cb] 30)).alloc (Obj.cells #[.int .i64 l, .int .i64 g] 47) = ub at b1 b2 b3 HRW HB ⊢
  have HB1 := hide b1
  have HB2 := hide b2
  have HB3 := hide b3
  clear ka b1 b2 b3
  obtain ⟨wl, wx, wy, he, hln⟩ : ∃ (wl : Bool) (wx wy : List (Int × Int)), (setOk vs fs rs li xs ys p l g = wl ∧ setX vs fs rs li xs ys p l g = wx ∧ setY vs fs rs li xs ys p l g = wy) ∧ (wx.length ≤ 1048576 ∧ wy.length ≤ 1048576) := ⟨_, _, _, ⟨rfl, rfl, rfl⟩, set_len 1048576 (unhide LL)⟩
  have HE := hide he
  have LW := hide hln
  clear he hln
  have K1 : Hid (∀ w, Below ub.heap.size ub w → Calls Tryd.prog 19 #[.agg #[.slice a1 vs.length c1, .slice a2 fs.length c2, .slice a3 rs.length c3], .agg #[.bool li, .slice oa xs.length ca, .slice ob ys.length cb], .int .i64 p, .agg #[.int .i64 l, .int .i64 g]] w (Ans3' wl wx wy w)) := fun w k => by
    have q := iEnvSet_c a1 a2 a3 c1 c2 c3 vs fs rs li oa ob ca cb xs ys p l g w ((unhide HRW).1.call k) ((unhide HRW).2.1.call k) ((unhide HRW).2.2.1.call k) ((unhide HRW).2.2.2.1.call k) (unhide HZ) ((unhide HRW).2.2.2.2.1.call k) ((unhide HRW).2.2.2.2.2.call k)
    rw [(unhide HE).1, (unhide HE).2.1, (unhide HE).2.2] at q
    exact q
  have KS : Hid (∀ w, Below ub.heap.size ub w → Calls Tryd.prog 20 #[.agg #[.slice a1 vs.length c1, .slice a2 fs.length c2, .slice a3 rs.length c3], .agg #[.bool li, .slice oa xs.length ca, .slice ob ys.length cb], .int .i64 p, .agg #[.int .i64 l, .int .i64 g]] w (Ans3' wl wx wy w)) := fun w k => by
    have q := sEnvSet_c a1 a2 a3 c1 c2 c3 vs fs rs li oa ob ca cb xs ys p l g w ((unhide HRW).2.1.call k) ((unhide HRW).2.2.1.call k) ((unhide HRW).2.2.2.1.call k) (unhide HZ) ((unhide HRW).2.2.2.2.1.call k) ((unhide HRW).2.2.2.2.2.call k)
    rw [(unhide HE).1, (unhide HE).2.1, (unhide HE).2.2] at q
    exact q
  have q0 := (unhide HB1).1
  have q1 := (unhide HB1).2.1
  have q2 := (unhide HB1).2.2.1
  have q3 := (unhide HB2).1
  have q4 := (unhide HB2).2.1
  have q5 := (unhide HB2).2.2.1
  have q6 := (unhide HB3).1
  have q7 := (unhide HB3).2.1
  go_wp2_with fail
  refine ((unhide K1) _ (Below.refl _ _)).mono ?_
  rintro e u3 ⟨ox, cx, oy, cy, rfl, hre, kb⟩
  have HJI := hide (hre.ivs (unhide LW))
  have HJB := hide (C3.new u3 (.bool wl) (.slice ox wx.length cx) (.slice oy wy.length cy) 30)
  have HK := hide (kb.alloc kb.size (Obj.cells #[.bool wl, .slice ox wx.length cx, .slice oy wy.length cy] 30))
  have ka := (Below.refl _ u3).alloc (Nat.le_refl _) (Obj.cells #[.bool wl, .slice ox wx.length cx, .slice oy wy.length cy] 30)
  have HJI := hide (And.intro ((unhide HJI).1.call ka) ((unhide HJI).2.call ka))
  clear hre kb ka q0 q1 q2 q3 q4 q5 q6 q7
  go_upto_region 5 with fail
  generalize u3.alloc (Obj.cells #[.bool wl, .slice ox wx.length cx, .slice oy wy.length cy] 30) = u4 at HJI HJB HK ⊢
  generalize u3.heap.size = pj at HJB ⊢
  cases wl
  · skip
    refine wp_region_held_drew (S := (S11 u4 u1.heap.size pj (.slice a1 vs.length c1) (.slice a2 fs.length c2) (.slice a3 rs.length c3) (.bool li) (.slice oa xs.length ca) (.slice ob ys.length cb) (.bool false) (.slice ox wx.length cx) (.slice oy wy.length cy) l g)) (by kernel_rfl) (S11.of ((unhide HB1).call (unhide HK)) ((unhide HB2).call (unhide HK)) ((unhide HB3).call (unhide HK)) (unhide HJB) (Below.refl u4.heap.size u4).drew) (fun hHeld => ?_)
    refine wpAnyH_take (i := 0) (oi := { dst := some 23, op := Op.load 30 (Operand.tmp 7), type := 30, pos := "laws.go:870", after := #[], guard := none }) (v := ?_) rfl (by kernel_rfl) (by kernel_rfl) (by kernel_rfl) (fun _ _ _ h => h) (Or.inl ⟨by rfl, ?_⟩) (by assumption) ?_
    rotate_left
    · (intro w9 hSw; (try dsimp only at hSw); go_simp; try with_reducible rfl)
    try simp only [Act.put, List.setIfInBounds_toArray, List.set_cons_zero, List.set_cons_succ]
    refine wpAnyH_take (i := 1) (oi := { dst := some 24, op := Op.load 27 (Operand.tmp 3), type := 27, pos := "laws.go:870", after := #[], guard := none }) (v := ?_) rfl (by kernel_rfl) (by kernel_rfl) (by kernel_rfl) (fun _ _ _ h => h) (Or.inl ⟨by rfl, ?_⟩) (by assumption) ?_
    rotate_left
    · (intro w9 hSw; (try dsimp only at hSw); go_simp; try with_reducible rfl)
    try simp only [Act.put, List.setIfInBounds_toArray, List.set_cons_zero, List.set_cons_succ]
    refine wpAnyH_take (i := 2) (oi := { dst := some 25, op := Op.load 30 (Operand.tmp 4), type := 30, pos := "laws.go:870", after := #[], guard := none }) (v := ?_) rfl (by kernel_rfl) (by kernel_rfl) (by kernel_rfl) (fun _ _ _ h => h) (Or.inl ⟨by rfl, ?_⟩) (by assumption) ?_
    rotate_left
    · (intro w9 hSw; (try dsimp only at hSw); go_simp; try with_reducible rfl)
    try simp only [Act.put, List.setIfInBounds_toArray, List.set_cons_zero, List.set_cons_succ]
    refine wpAnyH_take (i := 3) (oi := { dst := some 26, op := Op.move (Operand.tmp 5), type := 2, pos := "laws.go:870", after := #[], guard := none }) (v := ?_) rfl (by kernel_rfl) (by kernel_rfl) (by kernel_rfl) (fun _ _ _ h => h) (Or.inl ⟨by rfl, ?_⟩) (by assumption) ?_
    rotate_left
    · (intro w9 hSw; (try dsimp only at hSw); go_simp; try with_reducible rfl)
    try simp only [Act.put, List.setIfInBounds_toArray, List.set_cons_zero, List.set_cons_succ]
    refine wpAnyH_take (i := 4) (oi := { dst := some 27, op := Op.load 47 (Operand.tmp 6), type := 47, pos := "laws.go:870", after := #[], guard := none }) (v := ?_) rfl (by kernel_rfl) (by kernel_rfl) (by kernel_rfl) (fun _ _ _ h => h) (Or.inl ⟨by rfl, ?_⟩) (by assumption) ?_
    rotate_left
    · (intro w9 hSw; (try dsimp only at hSw); go_simp; try with_reducible rfl)
    try simp only [Act.put, List.setIfInBounds_toArray, List.set_cons_zero, List.set_cons_succ]
    refine wpAnyH_ready (rs := [5]) (by kernel_rfl) (by simp) ?_
    refine AllReadyH.cons (i := 5) (o := { dst := some 28, op := Op.call { callee := Callee.value (Operand.func 20), args := #[Operand.tmp 24, Operand.tmp 25, Operand.tmp 26, Operand.tmp 27], argTypes := #[27, 30, 2, 47] }, type := 30, pos := "laws.go:870", after := #[{ on := 1, ground := Ground.data }, { on := 2, ground := Ground.data }, { on := 3, ground := Ground.data }, { on := 4, ground := Ground.data }], guard := none }) rfl (fun K hK => ?_) AllReadyH.nil
    go_simp
    refine ((unhide KS) _ (fut_trans' (unhide HK) (S11.bel hHeld))).mono ?_
    rintro e u9 ⟨o1, n1, o2, n2, rfl, hre, kb⟩
    have HI := hide (hre.ivs (unhide LW))
    clear hre
    have hq := S11.of ((unhide HB1).call (unhide HK)) ((unhide HB2).call (unhide HK)) ((unhide HB3).call (unhide HK)) (unhide HJB) (fut_trans' (S11.bel hHeld) kb)
    clear kb hHeld
    refine hK.out _ _ hq (fun hHeld => ?_)
    clear hK K hq
    try simp only [Act.put, List.setIfInBounds_toArray, List.set_cons_zero, List.set_cons_succ]
    refine wpAnyH_ready (rs := [6]) (by kernel_rfl) (by simp) ?_
    refine AllReadyH.cons (i := 6) (o := { dst := some 29, op := Op.call { callee := Callee.value (Operand.func 16), args := #[Operand.tmp 23, Operand.tmp 28], argTypes := #[30, 30] }, type := 4, pos := "laws.go:870", after := #[{ on := 0, ground := Ground.data }, { on := 5, ground := Ground.data }, { on := 5, ground := Ground.chain }], guard := none }) rfl (fun K hK => ?_) AllReadyH.nil
    go_simp
    refine (same_again (And.intro ((unhide HJI).1.call (S11.bel hHeld)) ((unhide HJI).2.call (S11.bel hHeld))) (unhide HI)).mono ?_
    rintro e u9 ⟨rfl, kb⟩
    clear HI
    have hq := S11.of ((unhide HB1).call (unhide HK)) ((unhide HB2).call (unhide HK)) ((unhide HB3).call (unhide HK)) (unhide HJB) (fut_trans' (S11.bel hHeld) kb)
    clear kb hHeld
    refine hK.out _ _ hq (fun hHeld => ?_)
    clear hK K hq
    try simp only [Act.put, List.setIfInBounds_toArray, List.set_cons_zero, List.set_cons_succ]
    refine wpAnyH_take (i := 7) (oi := { dst := some 30, op := Op.unOp UnOp.not 4 (Operand.tmp 29), type := 4, pos := "laws.go:870", after := #[{ on := 6, ground := Ground.data }], guard := none }) (v := ?_) rfl (by kernel_rfl) (by kernel_rfl) (by kernel_rfl) (fun _ _ _ h => h) (Or.inl ⟨by rfl, ?_⟩) (by assumption) ?_
    rotate_left
    · (intro w9 hSw; (try dsimp only at hSw); go_simp; try with_reducible rfl)
    try simp only [Act.put, List.setIfInBounds_toArray, List.set_cons_zero, List.set_cons_succ]
    refine wpAnyH_take (i := 8) (oi := { dst := some 31, op := Op.move (Operand.tmp 30), type := 4, pos := "laws.go:870", after := #[{ on := 7, ground := Ground.data }, { on := 6, ground := Ground.chain }], guard := none }) (v := ?_) rfl (by kernel_rfl) (by kernel_rfl) (by kernel_rfl) (fun _ _ _ h => h) (Or.inl ⟨by rfl, ?_⟩) (by assumption) ?_
    rotate_left
    · (intro w9 hSw; (try dsimp only at hSw); go_simp; try with_reducible rfl)
    try simp only [Act.put, List.setIfInBounds_toArray, List.set_cons_zero, List.set_cons_succ]
    refine wpAnyH_take (i := 9) (oi := { dst := some 32, op := Op.fieldAddr 30 (Operand.tmp 7) 0, type := 0, pos := "laws.go:870", after := #[{ on := 8, ground := Ground.guard }], guard := some (8, false) }) (v := ?_) rfl (by kernel_rfl) (by kernel_rfl) (by kernel_rfl) (fun _ _ _ h => h) (Or.inl ⟨by rfl, ?_⟩) (by assumption) ?_
    rotate_left
    · (intro w9 hSw; (try dsimp only at hSw); go_simp; try with_reducible rfl)
    try simp only [Act.put, List.setIfInBounds_toArray, List.set_cons_zero, List.set_cons_succ]
    refine wpAnyH_take (i := 10) (oi := { dst := some 33, op := Op.load 4 (Operand.tmp 32), type := 4, pos := "laws.go:870", after := #[{ on := 9, ground := Ground.data }, { on := 8, ground := Ground.guard }], guard := some (8, false) }) (v := ?_) rfl (by kernel_rfl) (by kernel_rfl) (by kernel_rfl) (fun _ _ _ h => h) (Or.inl ⟨by rfl, ?_⟩) (by assumption) ?_
    rotate_left
    · (intro w9 hSw; (try dsimp only at hSw); go_simp; try with_reducible rfl)
    try simp only [Act.put, List.setIfInBounds_toArray, List.set_cons_zero, List.set_cons_succ]
    refine wpAnyH_take (i := 11) (oi := { dst := some 34, op := Op.unOp UnOp.not 4 (Operand.tmp 33), type := 4, pos := "laws.go:870", after := #[{ on := 10, ground := Ground.data }, { on := 8, ground := Ground.guard }], guard := some (8, false) }) (v := ?_) rfl (by kernel_rfl) (by kernel_rfl) (by kernel_rfl) (fun _ _ _ h => h) (Or.inl ⟨by rfl, ?_⟩) (by assumption) ?_
    rotate_left
    · (intro w9 hSw; (try dsimp only at hSw); go_simp; try with_reducible rfl)
    try simp only [Act.put, List.setIfInBounds_toArray, List.set_cons_zero, List.set_cons_succ]
    refine wpAnyH_take (i := 12) (oi := { dst := some 35, op := Op.pick (Operand.tmp 31) (Operand.const (Value.bool true)) (Operand.tmp 34), type := 4, pos := "laws.go:870", after := #[{ on := 8, ground := Ground.data }, { on := 11, ground := Ground.data }], guard := none }) (v := ?_) rfl (by kernel_rfl) (by kernel_rfl) (by kernel_rfl) (fun _ _ _ h => h) (Or.inl ⟨by rfl, ?_⟩) (by assumption) ?_
    rotate_left
    · (intro w9 hSw; (try dsimp only at hSw); go_simp; try with_reducible rfl)
    try simp only [Act.put, List.setIfInBounds_toArray, List.set_cons_zero, List.set_cons_succ]
    refine wpAnyH_done (by kernel_rfl) ?_ _
    have HK2 := hide (fut_trans' (unhide HK) (S11.bel hHeld))
    have HJI2 := hide (And.intro ((unhide HJI).1.call (S11.bel hHeld)) ((unhide HJI).2.call (S11.bel hHeld)))
    have HJB2 := hide ((unhide HJB).call (S11.bel hHeld))
    clear hHeld HJI HJB HK
    generalize u9 = ur at HJI2 HJB2 HK2 ⊢
    go_upto_region 6 with fail
    have HJI := HJI2
    have HJB := HJB2
    have HK := HK2
    clear HJI2 HJB2 HK2
    refine wp_region_held_drew (S := (S11 ur u1.heap.size pj (.slice a1 vs.length c1) (.slice a2 fs.length c2) (.slice a3 rs.length c3) (.bool li) (.slice oa xs.length ca) (.slice ob ys.length cb) (.bool false) (.slice ox wx.length cx) (.slice oy wy.length cy) l g)) (by kernel_rfl) (S11.of ((unhide HB1).call (unhide HK)) ((unhide HB2).call (unhide HK)) ((unhide HB3).call (unhide HK)) (unhide HJB) (Below.refl ur.heap.size ur).drew) (fun hHeld => ?_)
    refine wpAnyH_take (i := 0) (oi := { dst := some 36, op := Op.load 30 (Operand.tmp 7), type := 30, pos := "laws.go:871", after := #[], guard := none }) (v := ?_) rfl (by kernel_rfl) (by kernel_rfl) (by kernel_rfl) (fun _ _ _ h => h) (Or.inl ⟨by rfl, ?_⟩) (by assumption) ?_
    rotate_left
    · (intro w9 hSw; (try dsimp only at hSw); go_simp; try with_reducible rfl)
    try simp only [Act.put, List.setIfInBounds_toArray, List.set_cons_zero, List.set_cons_succ]
    refine wpAnyH_take (i := 1) (oi := { dst := some 37, op := Op.load 27 (Operand.tmp 3), type := 27, pos := "laws.go:871", after := #[], guard := none }) (v := ?_) rfl (by kernel_rfl) (by kernel_rfl) (by kernel_rfl) (fun _ _ _ h => h) (Or.inl ⟨by rfl, ?_⟩) (by assumption) ?_
    rotate_left
    · (intro w9 hSw; (try dsimp only at hSw); go_simp; try with_reducible rfl)
    try simp only [Act.put, List.setIfInBounds_toArray, List.set_cons_zero, List.set_cons_succ]
    refine wpAnyH_take (i := 2) (oi := { dst := some 38, op := Op.load 30 (Operand.tmp 4), type := 30, pos := "laws.go:871", after := #[], guard := none }) (v := ?_) rfl (by kernel_rfl) (by kernel_rfl) (by kernel_rfl) (fun _ _ _ h => h) (Or.inl ⟨by rfl, ?_⟩) (by assumption) ?_
    rotate_left
    · (intro w9 hSw; (try dsimp only at hSw); go_simp; try with_reducible rfl)
    try simp only [Act.put, List.setIfInBounds_toArray, List.set_cons_zero, List.set_cons_succ]
    refine wpAnyH_take (i := 3) (oi := { dst := some 39, op := Op.move (Operand.tmp 5), type := 2, pos := "laws.go:871", after := #[], guard := none }) (v := ?_) rfl (by kernel_rfl) (by kernel_rfl) (by kernel_rfl) (fun _ _ _ h => h) (Or.inl ⟨by rfl, ?_⟩) (by assumption) ?_
    rotate_left
    · (intro w9 hSw; (try dsimp only at hSw); go_simp; try with_reducible rfl)
    try simp only [Act.put, List.setIfInBounds_toArray, List.set_cons_zero, List.set_cons_succ]
    refine wpAnyH_take (i := 4) (oi := { dst := some 40, op := Op.load 47 (Operand.tmp 6), type := 47, pos := "laws.go:871", after := #[], guard := none }) (v := ?_) rfl (by kernel_rfl) (by kernel_rfl) (by kernel_rfl) (fun _ _ _ h => h) (Or.inl ⟨by rfl, ?_⟩) (by assumption) ?_
    rotate_left
    · (intro w9 hSw; (try dsimp only at hSw); go_simp; try with_reducible rfl)
    try simp only [Act.put, List.setIfInBounds_toArray, List.set_cons_zero, List.set_cons_succ]
    refine wpAnyH_ready (rs := [5]) (by kernel_rfl) (by simp) ?_
    refine AllReadyH.cons (i := 5) (o := { dst := some 41, op := Op.call { callee := Callee.value (Operand.func 20), args := #[Operand.tmp 37, Operand.tmp 38, Operand.tmp 39, Operand.tmp 40], argTypes := #[27, 30, 2, 47] }, type := 30, pos := "laws.go:871", after := #[{ on := 1, ground := Ground.data }, { on := 2, ground := Ground.data }, { on := 3, ground := Ground.data }, { on := 4, ground := Ground.data }], guard := none }) rfl (fun K hK => ?_) AllReadyH.nil
    go_simp
    refine ((unhide KS) _ (fut_trans' (unhide HK) (S11.bel hHeld))).mono ?_
    rintro e u9 ⟨o1, n1, o2, n2, rfl, hre, kb⟩
    have HI := hide (hre.ivs (unhide LW))
    clear hre
    have hq := S11.of ((unhide HB1).call (unhide HK)) ((unhide HB2).call (unhide HK)) ((unhide HB3).call (unhide HK)) (unhide HJB) (fut_trans' (S11.bel hHeld) kb)
    clear kb hHeld
    refine hK.out _ _ hq (fun hHeld => ?_)
    clear hK K hq
    try simp only [Act.put, List.setIfInBounds_toArray, List.set_cons_zero, List.set_cons_succ]
    refine wpAnyH_ready (rs := [6]) (by kernel_rfl) (by simp) ?_
    refine AllReadyH.cons (i := 6) (o := { dst := some 42, op := Op.call { callee := Callee.value (Operand.func 16), args := #[Operand.tmp 36, Operand.tmp 41], argTypes := #[30, 30] }, type := 4, pos := "laws.go:871", after := #[{ on := 0, ground := Ground.data }, { on := 5, ground := Ground.data }, { on := 5, ground := Ground.chain }], guard := none }) rfl (fun K hK => ?_) AllReadyH.nil
    go_simp
    refine (same_again (And.intro ((unhide HJI).1.call (S11.bel hHeld)) ((unhide HJI).2.call (S11.bel hHeld))) (unhide HI)).mono ?_
    rintro e u9 ⟨rfl, kb⟩
    clear HI
    have hq := S11.of ((unhide HB1).call (unhide HK)) ((unhide HB2).call (unhide HK)) ((unhide HB3).call (unhide HK)) (unhide HJB) (fut_trans' (S11.bel hHeld) kb)
    clear kb hHeld
    refine hK.out _ _ hq (fun hHeld => ?_)
    clear hK K hq
    try simp only [Act.put, List.setIfInBounds_toArray, List.set_cons_zero, List.set_cons_succ]
    refine wpAnyH_take (i := 7) (oi := { dst := some 2, op := Op.assign (Operand.tmp 42), type := 4, pos := "laws.go:871", after := #[{ on := 6, ground := Ground.data }, { on := 6, ground := Ground.chain }, { on := 0, ground := Ground.phase }, { on := 1, ground := Ground.phase }, { on := 2, ground := Ground.phase }, { on := 3, ground := Ground.phase }, { on := 4, ground := Ground.phase }, { on := 5, ground := Ground.phase }, { on := 6, ground := Ground.phase }], guard := none }) (v := ?_) rfl (by kernel_rfl) (by kernel_rfl) (by kernel_rfl) (fun _ _ _ h => h) (Or.inl ⟨by rfl, ?_⟩) (by assumption) ?_
    rotate_left
    · (intro w9 hSw; (try dsimp only at hSw); go_simp; try with_reducible rfl)
    try simp only [Act.put, List.setIfInBounds_toArray, List.set_cons_zero, List.set_cons_succ]
    refine wpAnyH_done (by kernel_rfl) ?_ _
    have HB := hide ((unhide HB).trans ((fut_trans' (unhide HK) (S11.bel hHeld)).mono (unhide HB).size))
    clear hHeld
    go_wp2
    go_ret
    exact ⟨rfl, unhide HB⟩
  refine wp_region_held_drew (S := (S11 u4 u1.heap.size pj (.slice a1 vs.length c1) (.slice a2 fs.length c2) (.slice a3 rs.length c3) (.bool li) (.slice oa xs.length ca) (.slice ob ys.length cb) (.bool true) (.slice ox wx.length cx) (.slice oy wy.length cy) l g)) (by kernel_rfl) (S11.of ((unhide HB1).call (unhide HK)) ((unhide HB2).call (unhide HK)) ((unhide HB3).call (unhide HK)) (unhide HJB) (Below.refl u4.heap.size u4).drew) (fun hHeld => ?_)
  refine wpAnyH_take (i := 0) (oi := { dst := some 23, op := Op.load 30 (Operand.tmp 7), type := 30, pos := "laws.go:870", after := #[], guard := none }) (v := ?_) rfl (by kernel_rfl) (by kernel_rfl) (by kernel_rfl) (fun _ _ _ h => h) (Or.inl ⟨by rfl, ?_⟩) (by assumption) ?_
  rotate_left
  · (intro w9 hSw; (try dsimp only at hSw); go_simp; try with_reducible rfl)
  try simp only [Act.put, List.setIfInBounds_toArray, List.set_cons_zero, List.set_cons_succ]
  refine wpAnyH_take (i := 1) (oi := { dst := some 24, op := Op.load 27 (Operand.tmp 3), type := 27, pos := "laws.go:870", after := #[], guard := none }) (v := ?_) rfl (by kernel_rfl) (by kernel_rfl) (by kernel_rfl) (fun _ _ _ h => h) (Or.inl ⟨by rfl, ?_⟩) (by assumption) ?_
  rotate_left
  · (intro w9 hSw; (try dsimp only at hSw); go_simp; try with_reducible rfl)
  try simp only [Act.put, List.setIfInBounds_toArray, List.set_cons_zero, List.set_cons_succ]
  refine wpAnyH_take (i := 2) (oi := { dst := some 25, op := Op.load 30 (Operand.tmp 4), type := 30, pos := "laws.go:870", after := #[], guard := none }) (v := ?_) rfl (by kernel_rfl) (by kernel_rfl) (by kernel_rfl) (fun _ _ _ h => h) (Or.inl ⟨by rfl, ?_⟩) (by assumption) ?_
  rotate_left
  · (intro w9 hSw; (try dsimp only at hSw); go_simp; try with_reducible rfl)
  try simp only [Act.put, List.setIfInBounds_toArray, List.set_cons_zero, List.set_cons_succ]
  refine wpAnyH_take (i := 3) (oi := { dst := some 26, op := Op.move (Operand.tmp 5), type := 2, pos := "laws.go:870", after := #[], guard := none }) (v := ?_) rfl (by kernel_rfl) (by kernel_rfl) (by kernel_rfl) (fun _ _ _ h => h) (Or.inl ⟨by rfl, ?_⟩) (by assumption) ?_
  rotate_left
  · (intro w9 hSw; (try dsimp only at hSw); go_simp; try with_reducible rfl)
  try simp only [Act.put, List.setIfInBounds_toArray, List.set_cons_zero, List.set_cons_succ]
  refine wpAnyH_take (i := 4) (oi := { dst := some 27, op := Op.load 47 (Operand.tmp 6), type := 47, pos := "laws.go:870", after := #[], guard := none }) (v := ?_) rfl (by kernel_rfl) (by kernel_rfl) (by kernel_rfl) (fun _ _ _ h => h) (Or.inl ⟨by rfl, ?_⟩) (by assumption) ?_
  rotate_left
  · (intro w9 hSw; (try dsimp only at hSw); go_simp; try with_reducible rfl)
  try simp only [Act.put, List.setIfInBounds_toArray, List.set_cons_zero, List.set_cons_succ]
  refine wpAnyH_ready (rs := [5]) (by kernel_rfl) (by simp) ?_
  refine AllReadyH.cons (i := 5) (o := { dst := some 28, op := Op.call { callee := Callee.value (Operand.func 20), args := #[Operand.tmp 24, Operand.tmp 25, Operand.tmp 26, Operand.tmp 27], argTypes := #[27, 30, 2, 47] }, type := 30, pos := "laws.go:870", after := #[{ on := 1, ground := Ground.data }, { on := 2, ground := Ground.data }, { on := 3, ground := Ground.data }, { on := 4, ground := Ground.data }], guard := none }) rfl (fun K hK => ?_) AllReadyH.nil
  go_simp
  refine ((unhide KS) _ (fut_trans' (unhide HK) (S11.bel hHeld))).mono ?_
  rintro e u9 ⟨o1, n1, o2, n2, rfl, hre, kb⟩
  have HI := hide (hre.ivs (unhide LW))
  clear hre
  have hq := S11.of ((unhide HB1).call (unhide HK)) ((unhide HB2).call (unhide HK)) ((unhide HB3).call (unhide HK)) (unhide HJB) (fut_trans' (S11.bel hHeld) kb)
  clear kb hHeld
  refine hK.out _ _ hq (fun hHeld => ?_)
  clear hK K hq
  try simp only [Act.put, List.setIfInBounds_toArray, List.set_cons_zero, List.set_cons_succ]
  refine wpAnyH_ready (rs := [6]) (by kernel_rfl) (by simp) ?_
  refine AllReadyH.cons (i := 6) (o := { dst := some 29, op := Op.call { callee := Callee.value (Operand.func 16), args := #[Operand.tmp 23, Operand.tmp 28], argTypes := #[30, 30] }, type := 4, pos := "laws.go:870", after := #[{ on := 0, ground := Ground.data }, { on := 5, ground := Ground.data }, { on := 5, ground := Ground.chain }], guard := none }) rfl (fun K hK => ?_) AllReadyH.nil
  go_simp
  refine (same_again (And.intro ((unhide HJI).1.call (S11.bel hHeld)) ((unhide HJI).2.call (S11.bel hHeld))) (unhide HI)).mono ?_
  rintro e u9 ⟨rfl, kb⟩
  clear HI
  have hq := S11.of ((unhide HB1).call (unhide HK)) ((unhide HB2).call (unhide HK)) ((unhide HB3).call (unhide HK)) (unhide HJB) (fut_trans' (S11.bel hHeld) kb)
  clear kb hHeld
  refine hK.out _ _ hq (fun hHeld => ?_)
  clear hK K hq
  try simp only [Act.put, List.setIfInBounds_toArray, List.set_cons_zero, List.set_cons_succ]
  refine wpAnyH_take (i := 7) (oi := { dst := some 30, op := Op.unOp UnOp.not 4 (Operand.tmp 29), type := 4, pos := "laws.go:870", after := #[{ on := 6, ground := Ground.data }], guard := none }) (v := ?_) rfl (by kernel_rfl) (by kernel_rfl) (by kernel_rfl) (fun _ _ _ h => h) (Or.inl ⟨by rfl, ?_⟩) (by assumption) ?_
  rotate_left
  · (intro w9 hSw; (try dsimp only at hSw); go_simp; try with_reducible rfl)
  try simp only [Act.put, List.setIfInBounds_toArray, List.set_cons_zero, List.set_cons_succ]
  refine wpAnyH_take (i := 8) (oi := { dst := some 31, op := Op.move (Operand.tmp 30), type := 4, pos := "laws.go:870", after := #[{ on := 7, ground := Ground.data }, { on := 6, ground := Ground.chain }], guard := none }) (v := ?_) rfl (by kernel_rfl) (by kernel_rfl) (by kernel_rfl) (fun _ _ _ h => h) (Or.inl ⟨by rfl, ?_⟩) (by assumption) ?_
  rotate_left
  · (intro w9 hSw; (try dsimp only at hSw); go_simp; try with_reducible rfl)
  try simp only [Act.put, List.setIfInBounds_toArray, List.set_cons_zero, List.set_cons_succ]
  refine wpAnyH_take (i := 9) (oi := { dst := some 32, op := Op.fieldAddr 30 (Operand.tmp 7) 0, type := 0, pos := "laws.go:870", after := #[{ on := 8, ground := Ground.guard }], guard := some (8, false) }) (v := ?_) rfl (by kernel_rfl) (by kernel_rfl) (by kernel_rfl) (fun _ _ _ h => h) (Or.inl ⟨by rfl, ?_⟩) (by assumption) ?_
  rotate_left
  · (intro w9 hSw; (try dsimp only at hSw); go_simp; try with_reducible rfl)
  try simp only [Act.put, List.setIfInBounds_toArray, List.set_cons_zero, List.set_cons_succ]
  refine wpAnyH_take (i := 10) (oi := { dst := some 33, op := Op.load 4 (Operand.tmp 32), type := 4, pos := "laws.go:870", after := #[{ on := 9, ground := Ground.data }, { on := 8, ground := Ground.guard }], guard := some (8, false) }) (v := ?_) rfl (by kernel_rfl) (by kernel_rfl) (by kernel_rfl) (fun _ _ _ h => h) (Or.inl ⟨by rfl, ?_⟩) (by assumption) ?_
  rotate_left
  · (intro w9 hSw; (try dsimp only at hSw); go_simp; try with_reducible rfl)
  try simp only [Act.put, List.setIfInBounds_toArray, List.set_cons_zero, List.set_cons_succ]
  refine wpAnyH_take (i := 11) (oi := { dst := some 34, op := Op.unOp UnOp.not 4 (Operand.tmp 33), type := 4, pos := "laws.go:870", after := #[{ on := 10, ground := Ground.data }, { on := 8, ground := Ground.guard }], guard := some (8, false) }) (v := ?_) rfl (by kernel_rfl) (by kernel_rfl) (by kernel_rfl) (fun _ _ _ h => h) (Or.inl ⟨by rfl, ?_⟩) (by assumption) ?_
  rotate_left
  · (intro w9 hSw; (try dsimp only at hSw); go_simp; try with_reducible rfl)
  try simp only [Act.put, List.setIfInBounds_toArray, List.set_cons_zero, List.set_cons_succ]
  refine wpAnyH_take (i := 12) (oi := { dst := some 35, op := Op.pick (Operand.tmp 31) (Operand.const (Value.bool true)) (Operand.tmp 34), type := 4, pos := "laws.go:870", after := #[{ on := 8, ground := Ground.data }, { on := 11, ground := Ground.data }], guard := none }) (v := ?_) rfl (by kernel_rfl) (by kernel_rfl) (by kernel_rfl) (fun _ _ _ h => h) (Or.inl ⟨by rfl, ?_⟩) (by assumption) ?_
  rotate_left
  · (intro w9 hSw; (try dsimp only at hSw); go_simp; try with_reducible rfl)
  try simp only [Act.put, List.setIfInBounds_toArray, List.set_cons_zero, List.set_cons_succ]
  refine wpAnyH_done (by kernel_rfl) ?_ _
  have HK2 := hide (fut_trans' (unhide HK) (S11.bel hHeld))
  have HJI2 := hide (And.intro ((unhide HJI).1.call (S11.bel hHeld)) ((unhide HJI).2.call (S11.bel hHeld)))
  have HJB2 := hide ((unhide HJB).call (S11.bel hHeld))
  clear hHeld HJI HJB HK
  generalize u9 = ur at HJI2 HJB2 HK2 ⊢
  go_upto_region 7 with fail
  have HJI := HJI2
  have HJB := HJB2
  have HK := HK2
  clear HJI2 HJB2 HK2
  obtain ⟨k, hpk, hkl, ex, ey, hfew⟩ := set_good (unhide HE).1
  subst hpk
  rw [(unhide HE).2.1] at ex
  rw [(unhide HE).2.2] at ey
  subst ex
  have ey2 := ey.symm
  subst ey2
  have HJB := hide (show C3 ur pj (.bool true) (.slice ox xs.length cx) (.slice oy ys.length cy) from by have q := unhide HJB; rw [List.length_set] at q; exact q)
  clear HE LW K1 KS
  have hx5 : (xs.length : Int) ≤ 5 := by omega
  have hkI : (k : Int) < (xs.length : Int) := by omega
  have f0 := (unhide HJB).2.1
  go_wp2
  clear f0
  go_loopw [8] (fun i wr => ∃ j : Nat, j ≤ xs.length ∧ i = .int .i64 j ∧ Below ur.heap.size ur wr) (fun i _ => xs.length - (intOf i).toNat)
  case atStart => exact ⟨0, Nat.zero_le _, rfl, Below.refl _ _⟩
  case round =>
    obtain ⟨j, hj, rfl, kr⟩ := hrel
    have HKR := hide kr
    clear kr
    have f1 := ((unhide HJB).call (unhide HKR)).2.1
    by_cases hlt : j < xs.length
    · have hltI : (j : Int) < (xs.length : Int) := by omega
      go_upto_region 10 with fail
      have e1 := ((unhide HB2).call (fut_trans' (unhide HK) (unhide HKR))).2.1
      obtain ⟨rb, ro, rfl, c0, c1'⟩ := ivs_cell ((unhide HJI).1.call (unhide HKR)) j (by simp; exact hlt)
      obtain ⟨sb, so, rfl, d0, d1'⟩ := ivs_cell ((unhide HRW).2.2.2.2.1.call (fut_trans' (unhide HK) (unhide HKR))) j hlt
      obtain ⟨m, n, hmn⟩ : ∃ m n, (xs.set k (l, g))[j]'(by simp; exact hlt) = (m, n) := ⟨_, _, rfl⟩
      obtain ⟨m2, n2, hmn2⟩ : ∃ m n, xs[j] = (m, n) := ⟨_, _, rfl⟩
      rw [hmn] at c0 c1'
      rw [hmn2] at d0 d1'
      simp only at c0 c1' d0 d1'
      by_cases hjk : j = k
      · skip
        have hne : ((j : Int) != (k : Int)) = false := by simp [hjk]
        have hne2 : (j : Int) = (k : Int) := by omega
        clear hmn hmn2 hjk
        refine wp_region_held_drew (S := (fun u => u.cell? ⟨pj, 1, none⟩ = some (.slice (some ⟨rb, ro, none⟩) xs.length cx) ∧ u.cell? ⟨u1.heap.size + 1, 1, none⟩ = some (.slice (some ⟨sb, so, none⟩) xs.length ca) ∧ u.cell? ⟨rb, ro + j * 2, none⟩ = some (.int .i64 m) ∧ u.cell? ⟨rb, ro + j * 2 + 1, none⟩ = some (.int .i64 n) ∧ u.cell? ⟨sb, so + j * 2, none⟩ = some (.int .i64 m2) ∧ u.cell? ⟨sb, so + j * 2 + 1, none⟩ = some (.int .i64 n2) ∧ Hid (u.heap = wr.heap))) (by kernel_rfl) (⟨f1, e1, c0, c1', d0, d1', hide rfl⟩) (fun hHeld => ?_)
        refine wpAnyH_take (i := 0) (oi := { dst := some 50, op := Op.move (Operand.tmp 8), type := 3, pos := "laws.go:874", after := #[], guard := none }) (v := ?_) rfl (by kernel_rfl) (by kernel_rfl) (by kernel_rfl) (fun _ _ _ h => h) (Or.inl ⟨by rfl, ?_⟩) (by assumption) ?_
        rotate_left
        · (intro w9 hSw; (try dsimp only at hSw); go_simp; try with_reducible rfl)
        try simp only [Act.put, List.setIfInBounds_toArray, List.set_cons_zero, List.set_cons_succ]
        refine wpAnyH_take (i := 1) (oi := { dst := some 51, op := Op.move (Operand.tmp 5), type := 2, pos := "laws.go:874", after := #[], guard := none }) (v := ?_) rfl (by kernel_rfl) (by kernel_rfl) (by kernel_rfl) (fun _ _ _ h => h) (Or.inl ⟨by rfl, ?_⟩) (by assumption) ?_
        rotate_left
        · (intro w9 hSw; (try dsimp only at hSw); go_simp; try with_reducible rfl)
        try simp only [Act.put, List.setIfInBounds_toArray, List.set_cons_zero, List.set_cons_succ]
        refine wpAnyH_take (i := 2) (oi := { dst := some 52, op := Op.binOp BinOp.neq 2 (Operand.tmp 50) (Operand.tmp 51) 2, type := 4, pos := "laws.go:874", after := #[{ on := 0, ground := Ground.data }, { on := 1, ground := Ground.data }], guard := none }) (v := ?_) rfl (by kernel_rfl) (by kernel_rfl) (by kernel_rfl) (fun _ _ _ h => h) (Or.inl ⟨by rfl, ?_⟩) (by assumption) ?_
        rotate_left
        · (intro w9 hSw; (try dsimp only at hSw); go_simp; try with_reducible rfl)
        try simp only [Act.put, List.setIfInBounds_toArray, List.set_cons_zero, List.set_cons_succ]
        refine wpAnyH_take (i := 3) (oi := { dst := some 53, op := Op.move (Operand.tmp 52), type := 4, pos := "laws.go:874", after := #[{ on := 2, ground := Ground.data }], guard := none }) (v := ?_) rfl (by kernel_rfl) (by kernel_rfl) (by kernel_rfl) (fun _ _ _ h => h) (Or.inl ⟨by rfl, ?_⟩) (by assumption) ?_
        rotate_left
        · (intro w9 hSw; (try dsimp only at hSw); go_simp; try with_reducible rfl)
        try simp only [Act.put, List.setIfInBounds_toArray, List.set_cons_zero, List.set_cons_succ]
        refine wpAnyH_take (i := 4) (oi := { dst := some 54, op := Op.fieldAddr 30 (Operand.tmp 7) 1, type := 0, pos := "laws.go:874", after := #[{ on := 3, ground := Ground.guard }], guard := some (3, true) }) (v := undef) rfl (by kernel_rfl) (by kernel_rfl) (by kernel_rfl) (fun _ _ _ h => h) (Or.inr ⟨by rfl, rfl⟩) (by assumption) ?_
        try simp only [Act.put, List.setIfInBounds_toArray, List.set_cons_zero, List.set_cons_succ]
        refine wpAnyH_take (i := 5) (oi := { dst := some 55, op := Op.load 28 (Operand.tmp 54), type := 28, pos := "laws.go:874", after := #[{ on := 4, ground := Ground.data }, { on := 3, ground := Ground.guard }], guard := some (3, true) }) (v := undef) rfl (by kernel_rfl) (by kernel_rfl) (by kernel_rfl) (fun _ _ _ h => h) (Or.inr ⟨by rfl, rfl⟩) (by assumption) ?_
        try simp only [Act.put, List.setIfInBounds_toArray, List.set_cons_zero, List.set_cons_succ]
        refine wpAnyH_take (i := 6) (oi := { dst := some 56, op := Op.move (Operand.tmp 8), type := 3, pos := "laws.go:874", after := #[{ on := 3, ground := Ground.guard }], guard := some (3, true) }) (v := undef) rfl (by kernel_rfl) (by kernel_rfl) (by kernel_rfl) (fun _ _ _ h => h) (Or.inr ⟨by rfl, rfl⟩) (by assumption) ?_
        try simp only [Act.put, List.setIfInBounds_toArray, List.set_cons_zero, List.set_cons_succ]
        refine wpAnyH_take (i := 7) (oi := { dst := some 57, op := Op.indexAddr 28 (Operand.tmp 55) (Operand.tmp 56), type := 0, pos := "laws.go:874", after := #[{ on := 5, ground := Ground.data }, { on := 6, ground := Ground.data }, { on := 3, ground := Ground.guard }], guard := some (3, true) }) (v := undef) rfl (by kernel_rfl) (by kernel_rfl) (by kernel_rfl) (fun _ _ _ h => h) (Or.inr ⟨by rfl, rfl⟩) (by assumption) ?_
        try simp only [Act.put, List.setIfInBounds_toArray, List.set_cons_zero, List.set_cons_succ]
        refine wpAnyH_take (i := 8) (oi := { dst := some 58, op := Op.load 47 (Operand.tmp 57), type := 47, pos := "laws.go:874", after := #[{ on := 7, ground := Ground.data }, { on := 3, ground := Ground.guard }], guard := some (3, true) }) (v := undef) rfl (by kernel_rfl) (by kernel_rfl) (by kernel_rfl) (fun _ _ _ h => h) (Or.inr ⟨by rfl, rfl⟩) (by assumption) ?_
        try simp only [Act.put, List.setIfInBounds_toArray, List.set_cons_zero, List.set_cons_succ]
        refine wpAnyH_take (i := 9) (oi := { dst := some 59, op := Op.fieldAddr 30 (Operand.tmp 4) 1, type := 0, pos := "laws.go:874", after := #[{ on := 3, ground := Ground.guard }], guard := some (3, true) }) (v := undef) rfl (by kernel_rfl) (by kernel_rfl) (by kernel_rfl) (fun _ _ _ h => h) (Or.inr ⟨by rfl, rfl⟩) (by assumption) ?_
        try simp only [Act.put, List.setIfInBounds_toArray, List.set_cons_zero, List.set_cons_succ]
        refine wpAnyH_take (i := 10) (oi := { dst := some 60, op := Op.load 28 (Operand.tmp 59), type := 28, pos := "laws.go:874", after := #[{ on := 9, ground := Ground.data }, { on := 3, ground := Ground.guard }], guard := some (3, true) }) (v := undef) rfl (by kernel_rfl) (by kernel_rfl) (by kernel_rfl) (fun _ _ _ h => h) (Or.inr ⟨by rfl, rfl⟩) (by assumption) ?_
        try simp only [Act.put, List.setIfInBounds_toArray, List.set_cons_zero, List.set_cons_succ]
        refine wpAnyH_take (i := 11) (oi := { dst := some 61, op := Op.move (Operand.tmp 8), type := 3, pos := "laws.go:874", after := #[{ on := 3, ground := Ground.guard }], guard := some (3, true) }) (v := undef) rfl (by kernel_rfl) (by kernel_rfl) (by kernel_rfl) (fun _ _ _ h => h) (Or.inr ⟨by rfl, rfl⟩) (by assumption) ?_
        try simp only [Act.put, List.setIfInBounds_toArray, List.set_cons_zero, List.set_cons_succ]
        refine wpAnyH_take (i := 12) (oi := { dst := some 62, op := Op.indexAddr 28 (Operand.tmp 60) (Operand.tmp 61), type := 0, pos := "laws.go:874", after := #[{ on := 10, ground := Ground.data }, { on := 11, ground := Ground.data }, { on := 3, ground := Ground.guard }], guard := some (3, true) }) (v := undef) rfl (by kernel_rfl) (by kernel_rfl) (by kernel_rfl) (fun _ _ _ h => h) (Or.inr ⟨by rfl, rfl⟩) (by assumption) ?_
        try simp only [Act.put, List.setIfInBounds_toArray, List.set_cons_zero, List.set_cons_succ]
        refine wpAnyH_take (i := 13) (oi := { dst := some 63, op := Op.load 47 (Operand.tmp 62), type := 47, pos := "laws.go:874", after := #[{ on := 12, ground := Ground.data }, { on := 3, ground := Ground.guard }], guard := some (3, true) }) (v := undef) rfl (by kernel_rfl) (by kernel_rfl) (by kernel_rfl) (fun _ _ _ h => h) (Or.inr ⟨by rfl, rfl⟩) (by assumption) ?_
        try simp only [Act.put, List.setIfInBounds_toArray, List.set_cons_zero, List.set_cons_succ]
        refine wpAnyH_take (i := 14) (oi := { dst := some 64, op := Op.binOp BinOp.neq 47 (Operand.tmp 58) (Operand.tmp 63) 47, type := 4, pos := "laws.go:874", after := #[{ on := 8, ground := Ground.data }, { on := 13, ground := Ground.data }, { on := 3, ground := Ground.guard }], guard := some (3, true) }) (v := undef) rfl (by kernel_rfl) (by kernel_rfl) (by kernel_rfl) (fun _ _ _ h => h) (Or.inr ⟨by rfl, rfl⟩) (by assumption) ?_
        try simp only [Act.put, List.setIfInBounds_toArray, List.set_cons_zero, List.set_cons_succ]
        refine wpAnyH_take (i := 15) (oi := { dst := some 65, op := Op.pick (Operand.tmp 53) (Operand.tmp 64) (Operand.const (Value.bool false)), type := 4, pos := "laws.go:874", after := #[{ on := 3, ground := Ground.data }, { on := 14, ground := Ground.data }], guard := none }) (v := ?_) rfl (by kernel_rfl) (by kernel_rfl) (by kernel_rfl) (fun _ _ _ h => h) (Or.inl ⟨by rfl, ?_⟩) (by assumption) ?_
        rotate_left
        · (intro w9 hSw; (try dsimp only at hSw); go_simp; try with_reducible rfl)
        try simp only [Act.put, List.setIfInBounds_toArray, List.set_cons_zero, List.set_cons_succ]
        refine wpAnyH_done (by kernel_rfl) ?_ _
        have HKR := hide (show Below ur.heap.size ur wr.drew from (unhide HKR).drew)
        clear hHeld f1 e1 c0 c1' d0 d1'
        go_wp2
        go_roundw
        case rel => exact ⟨j + 1, by omega, by go_num, unhide HKR⟩
        case measure => simp [intOf]; omega
      · skip
        have hne : ((j : Int) != (k : Int)) = true := by simp; omega
        have hne2 : ¬ (j : Int) = (k : Int) := by omega
        have hsame : m = m2 ∧ n = n2 := by
          rw [List.getElem_set_ne (by omega), hmn2] at hmn
          have := Prod.mk.inj hmn
          exact ⟨this.1.symm, this.2.symm⟩
        obtain ⟨rfl, rfl⟩ := hsame
        clear hmn hmn2 hjk
        refine wp_region_held_drew (S := (fun u => u.cell? ⟨pj, 1, none⟩ = some (.slice (some ⟨rb, ro, none⟩) xs.length cx) ∧ u.cell? ⟨u1.heap.size + 1, 1, none⟩ = some (.slice (some ⟨sb, so, none⟩) xs.length ca) ∧ u.cell? ⟨rb, ro + j * 2, none⟩ = some (.int .i64 m) ∧ u.cell? ⟨rb, ro + j * 2 + 1, none⟩ = some (.int .i64 n) ∧ u.cell? ⟨sb, so + j * 2, none⟩ = some (.int .i64 m) ∧ u.cell? ⟨sb, so + j * 2 + 1, none⟩ = some (.int .i64 n) ∧ Hid (u.heap = wr.heap))) (by kernel_rfl) (⟨f1, e1, c0, c1', d0, d1', hide rfl⟩) (fun hHeld => ?_)
        refine wpAnyH_take (i := 0) (oi := { dst := some 50, op := Op.move (Operand.tmp 8), type := 3, pos := "laws.go:874", after := #[], guard := none }) (v := ?_) rfl (by kernel_rfl) (by kernel_rfl) (by kernel_rfl) (fun _ _ _ h => h) (Or.inl ⟨by rfl, ?_⟩) (by assumption) ?_
        rotate_left
        · (intro w9 hSw; (try dsimp only at hSw); go_simp; try with_reducible rfl)
        try simp only [Act.put, List.setIfInBounds_toArray, List.set_cons_zero, List.set_cons_succ]
        refine wpAnyH_take (i := 1) (oi := { dst := some 51, op := Op.move (Operand.tmp 5), type := 2, pos := "laws.go:874", after := #[], guard := none }) (v := ?_) rfl (by kernel_rfl) (by kernel_rfl) (by kernel_rfl) (fun _ _ _ h => h) (Or.inl ⟨by rfl, ?_⟩) (by assumption) ?_
        rotate_left
        · (intro w9 hSw; (try dsimp only at hSw); go_simp; try with_reducible rfl)
        try simp only [Act.put, List.setIfInBounds_toArray, List.set_cons_zero, List.set_cons_succ]
        refine wpAnyH_take (i := 2) (oi := { dst := some 52, op := Op.binOp BinOp.neq 2 (Operand.tmp 50) (Operand.tmp 51) 2, type := 4, pos := "laws.go:874", after := #[{ on := 0, ground := Ground.data }, { on := 1, ground := Ground.data }], guard := none }) (v := ?_) rfl (by kernel_rfl) (by kernel_rfl) (by kernel_rfl) (fun _ _ _ h => h) (Or.inl ⟨by rfl, ?_⟩) (by assumption) ?_
        rotate_left
        · (intro w9 hSw; (try dsimp only at hSw); go_simp; try with_reducible rfl)
        try simp only [Act.put, List.setIfInBounds_toArray, List.set_cons_zero, List.set_cons_succ]
        refine wpAnyH_take (i := 3) (oi := { dst := some 53, op := Op.move (Operand.tmp 52), type := 4, pos := "laws.go:874", after := #[{ on := 2, ground := Ground.data }], guard := none }) (v := ?_) rfl (by kernel_rfl) (by kernel_rfl) (by kernel_rfl) (fun _ _ _ h => h) (Or.inl ⟨by rfl, ?_⟩) (by assumption) ?_
        rotate_left
        · (intro w9 hSw; (try dsimp only at hSw); go_simp; try with_reducible rfl)
        try simp only [Act.put, List.setIfInBounds_toArray, List.set_cons_zero, List.set_cons_succ]
        refine wpAnyH_take (i := 4) (oi := { dst := some 54, op := Op.fieldAddr 30 (Operand.tmp 7) 1, type := 0, pos := "laws.go:874", after := #[{ on := 3, ground := Ground.guard }], guard := some (3, true) }) (v := ?_) rfl (by kernel_rfl) (by kernel_rfl) (by kernel_rfl) (fun _ _ _ h => h) (Or.inl ⟨by rfl, ?_⟩) (by assumption) ?_
        rotate_left
        · (intro w9 hSw; (try dsimp only at hSw); go_simp; try with_reducible rfl)
        try simp only [Act.put, List.setIfInBounds_toArray, List.set_cons_zero, List.set_cons_succ]
        refine wpAnyH_take (i := 5) (oi := { dst := some 55, op := Op.load 28 (Operand.tmp 54), type := 28, pos := "laws.go:874", after := #[{ on := 4, ground := Ground.data }, { on := 3, ground := Ground.guard }], guard := some (3, true) }) (v := ?_) rfl (by kernel_rfl) (by kernel_rfl) (by kernel_rfl) (fun _ _ _ h => h) (Or.inl ⟨by rfl, ?_⟩) (by assumption) ?_
        rotate_left
        · (intro w9 hSw; (try dsimp only at hSw); go_simp; try with_reducible rfl)
        try simp only [Act.put, List.setIfInBounds_toArray, List.set_cons_zero, List.set_cons_succ]
        refine wpAnyH_take (i := 6) (oi := { dst := some 56, op := Op.move (Operand.tmp 8), type := 3, pos := "laws.go:874", after := #[{ on := 3, ground := Ground.guard }], guard := some (3, true) }) (v := ?_) rfl (by kernel_rfl) (by kernel_rfl) (by kernel_rfl) (fun _ _ _ h => h) (Or.inl ⟨by rfl, ?_⟩) (by assumption) ?_
        rotate_left
        · (intro w9 hSw; (try dsimp only at hSw); go_simp; try with_reducible rfl)
        try simp only [Act.put, List.setIfInBounds_toArray, List.set_cons_zero, List.set_cons_succ]
        refine wpAnyH_take (i := 7) (oi := { dst := some 57, op := Op.indexAddr 28 (Operand.tmp 55) (Operand.tmp 56), type := 0, pos := "laws.go:874", after := #[{ on := 5, ground := Ground.data }, { on := 6, ground := Ground.data }, { on := 3, ground := Ground.guard }], guard := some (3, true) }) (v := ?_) rfl (by kernel_rfl) (by kernel_rfl) (by kernel_rfl) (fun _ _ _ h => h) (Or.inl ⟨by rfl, ?_⟩) (by assumption) ?_
        rotate_left
        · (intro w9 hSw; (try dsimp only at hSw); go_simp; try with_reducible rfl)
        try simp only [Act.put, List.setIfInBounds_toArray, List.set_cons_zero, List.set_cons_succ]
        refine wpAnyH_take (i := 8) (oi := { dst := some 58, op := Op.load 47 (Operand.tmp 57), type := 47, pos := "laws.go:874", after := #[{ on := 7, ground := Ground.data }, { on := 3, ground := Ground.guard }], guard := some (3, true) }) (v := ?_) rfl (by kernel_rfl) (by kernel_rfl) (by kernel_rfl) (fun _ _ _ h => h) (Or.inl ⟨by rfl, ?_⟩) (by assumption) ?_
        rotate_left
        · (intro w9 hSw; (try dsimp only at hSw); go_simp; try with_reducible rfl)
        try simp only [Act.put, List.setIfInBounds_toArray, List.set_cons_zero, List.set_cons_succ]
        refine wpAnyH_take (i := 9) (oi := { dst := some 59, op := Op.fieldAddr 30 (Operand.tmp 4) 1, type := 0, pos := "laws.go:874", after := #[{ on := 3, ground := Ground.guard }], guard := some (3, true) }) (v := ?_) rfl (by kernel_rfl) (by kernel_rfl) (by kernel_rfl) (fun _ _ _ h => h) (Or.inl ⟨by rfl, ?_⟩) (by assumption) ?_
        rotate_left
        · (intro w9 hSw; (try dsimp only at hSw); go_simp; try with_reducible rfl)
        try simp only [Act.put, List.setIfInBounds_toArray, List.set_cons_zero, List.set_cons_succ]
        refine wpAnyH_take (i := 10) (oi := { dst := some 60, op := Op.load 28 (Operand.tmp 59), type := 28, pos := "laws.go:874", after := #[{ on := 9, ground := Ground.data }, { on := 3, ground := Ground.guard }], guard := some (3, true) }) (v := ?_) rfl (by kernel_rfl) (by kernel_rfl) (by kernel_rfl) (fun _ _ _ h => h) (Or.inl ⟨by rfl, ?_⟩) (by assumption) ?_
        rotate_left
        · (intro w9 hSw; (try dsimp only at hSw); go_simp; try with_reducible rfl)
        try simp only [Act.put, List.setIfInBounds_toArray, List.set_cons_zero, List.set_cons_succ]
        refine wpAnyH_take (i := 11) (oi := { dst := some 61, op := Op.move (Operand.tmp 8), type := 3, pos := "laws.go:874", after := #[{ on := 3, ground := Ground.guard }], guard := some (3, true) }) (v := ?_) rfl (by kernel_rfl) (by kernel_rfl) (by kernel_rfl) (fun _ _ _ h => h) (Or.inl ⟨by rfl, ?_⟩) (by assumption) ?_
        rotate_left
        · (intro w9 hSw; (try dsimp only at hSw); go_simp; try with_reducible rfl)
        try simp only [Act.put, List.setIfInBounds_toArray, List.set_cons_zero, List.set_cons_succ]
        refine wpAnyH_take (i := 12) (oi := { dst := some 62, op := Op.indexAddr 28 (Operand.tmp 60) (Operand.tmp 61), type := 0, pos := "laws.go:874", after := #[{ on := 10, ground := Ground.data }, { on := 11, ground := Ground.data }, { on := 3, ground := Ground.guard }], guard := some (3, true) }) (v := ?_) rfl (by kernel_rfl) (by kernel_rfl) (by kernel_rfl) (fun _ _ _ h => h) (Or.inl ⟨by rfl, ?_⟩) (by assumption) ?_
        rotate_left
        · (intro w9 hSw; (try dsimp only at hSw); go_simp; try with_reducible rfl)
        try simp only [Act.put, List.setIfInBounds_toArray, List.set_cons_zero, List.set_cons_succ]
        refine wpAnyH_take (i := 13) (oi := { dst := some 63, op := Op.load 47 (Operand.tmp 62), type := 47, pos := "laws.go:874", after := #[{ on := 12, ground := Ground.data }, { on := 3, ground := Ground.guard }], guard := some (3, true) }) (v := ?_) rfl (by kernel_rfl) (by kernel_rfl) (by kernel_rfl) (fun _ _ _ h => h) (Or.inl ⟨by rfl, ?_⟩) (by assumption) ?_
        rotate_left
        · (intro w9 hSw; (try dsimp only at hSw); go_simp; try with_reducible rfl)
        try simp only [Act.put, List.setIfInBounds_toArray, List.set_cons_zero, List.set_cons_succ]
        refine wpAnyH_take (i := 14) (oi := { dst := some 64, op := Op.binOp BinOp.neq 47 (Operand.tmp 58) (Operand.tmp 63) 47, type := 4, pos := "laws.go:874", after := #[{ on := 8, ground := Ground.data }, { on := 13, ground := Ground.data }, { on := 3, ground := Ground.guard }], guard := some (3, true) }) (v := ?_) rfl (by kernel_rfl) (by kernel_rfl) (by kernel_rfl) (fun _ _ _ h => h) (Or.inl ⟨by rfl, ?_⟩) (by assumption) ?_
        rotate_left
        · (intro w9 hSw; (try dsimp only at hSw); go_simp; try with_reducible rfl)
        try simp only [Act.put, List.setIfInBounds_toArray, List.set_cons_zero, List.set_cons_succ]
        refine wpAnyH_take (i := 15) (oi := { dst := some 65, op := Op.pick (Operand.tmp 53) (Operand.tmp 64) (Operand.const (Value.bool false)), type := 4, pos := "laws.go:874", after := #[{ on := 3, ground := Ground.data }, { on := 14, ground := Ground.data }], guard := none }) (v := ?_) rfl (by kernel_rfl) (by kernel_rfl) (by kernel_rfl) (fun _ _ _ h => h) (Or.inl ⟨by rfl, ?_⟩) (by assumption) ?_
        rotate_left
        · (intro w9 hSw; (try dsimp only at hSw); go_simp; try with_reducible rfl)
        try simp only [Act.put, List.setIfInBounds_toArray, List.set_cons_zero, List.set_cons_succ]
        refine wpAnyH_done (by kernel_rfl) ?_ _
        have HKR := hide (show Below ur.heap.size ur wr.drew from (unhide HKR).drew)
        clear hHeld f1 e1 c0 c1' d0 d1'
        go_wp2
        go_roundw
        case rel => exact ⟨j + 1, by omega, by go_num, unhide HKR⟩
        case measure => simp [intOf]; omega
    · have hltI : ¬ (j : Int) < (xs.length : Int) := by omega
      go_upto_region 12 with fail
      clear f1
      generalize wr = v1 at HKR ⊢
      have HJB3 := hide ((unhide HJB).call (unhide HKR))
      have HK3 := hide (fut_trans' (unhide HK) (unhide HKR))
      have HJI3 := hide (And.intro ((unhide HJI).1.call (unhide HKR)) ((unhide HJI).2.call (unhide HKR)))
      obtain ⟨rb, ro, rfl, c0, c1'⟩ := ivs_cell (unhide HJI3).1 k (by simp; exact hkl)
      rw [List.getElem_set_self] at c0 c1'
      simp only at c0 c1'
      have HC0 := hide (And.intro c0 c1')
      clear c0 c1' HJB HK HJI HKR
      have HJB := HJB3
      have HK := HK3
      have HJI := HJI3
      clear HJB3 HK3 HJI3
      refine wp_region_held_drew (S := (fun u => (u.cell? ⟨rb, ro + k * 2, none⟩ = some (.int .i64 l) ∧ u.cell? ⟨rb, ro + k * 2 + 1, none⟩ = some (.int .i64 g)) ∧ S11 v1 u1.heap.size pj (.slice a1 vs.length c1) (.slice a2 fs.length c2) (.slice a3 rs.length c3) (.bool li) (.slice oa xs.length ca) (.slice ob ys.length cb) (.bool true) (.slice (some ⟨rb, ro, none⟩) xs.length cx) (.slice oy ys.length cy) l g u)) (by kernel_rfl) (⟨⟨(((Below.refl v1.heap.size v1).drew).cell (World.block_lt_of_cell? v1 _ (unhide HC0).1)).trans (unhide HC0).1, (((Below.refl v1.heap.size v1).drew).cell (World.block_lt_of_cell? v1 _ (unhide HC0).2)).trans (unhide HC0).2⟩, S11.of ((unhide HB1).call (unhide HK)) ((unhide HB2).call (unhide HK)) ((unhide HB3).call (unhide HK)) (unhide HJB) ((Below.refl v1.heap.size v1).drew)⟩) (fun hHeld => ?_)
      refine wpAnyH_take (i := 0) (oi := { dst := some 66, op := Op.fieldAddr 30 (Operand.tmp 7) 1, type := 0, pos := "laws.go:878", after := #[], guard := none }) (v := ?_) rfl (by kernel_rfl) (by kernel_rfl) (by kernel_rfl) (fun _ _ _ h => h) (Or.inl ⟨by rfl, ?_⟩) (by assumption) ?_
      rotate_left
      · (intro w9 hSw; (try dsimp only at hSw); go_simp; try with_reducible rfl)
      try simp only [Act.put, List.setIfInBounds_toArray, List.set_cons_zero, List.set_cons_succ]
      refine wpAnyH_take (i := 1) (oi := { dst := some 67, op := Op.load 28 (Operand.tmp 66), type := 28, pos := "laws.go:878", after := #[{ on := 0, ground := Ground.data }], guard := none }) (v := ?_) rfl (by kernel_rfl) (by kernel_rfl) (by kernel_rfl) (fun _ _ _ h => h) (Or.inl ⟨by rfl, ?_⟩) (by assumption) ?_
      rotate_left
      · (intro w9 hSw; (try dsimp only at hSw); go_simp; try with_reducible rfl)
      try simp only [Act.put, List.setIfInBounds_toArray, List.set_cons_zero, List.set_cons_succ]
      refine wpAnyH_take (i := 2) (oi := { dst := some 68, op := Op.move (Operand.tmp 5), type := 2, pos := "laws.go:878", after := #[], guard := none }) (v := ?_) rfl (by kernel_rfl) (by kernel_rfl) (by kernel_rfl) (fun _ _ _ h => h) (Or.inl ⟨by rfl, ?_⟩) (by assumption) ?_
      rotate_left
      · (intro w9 hSw; (try dsimp only at hSw); go_simp; try with_reducible rfl)
      try simp only [Act.put, List.setIfInBounds_toArray, List.set_cons_zero, List.set_cons_succ]
      refine wpAnyH_take (i := 3) (oi := { dst := some 69, op := Op.indexAddr 28 (Operand.tmp 67) (Operand.tmp 68), type := 0, pos := "laws.go:878", after := #[{ on := 1, ground := Ground.data }, { on := 2, ground := Ground.data }], guard := none }) (v := ?_) rfl (by kernel_rfl) (by kernel_rfl) (by kernel_rfl) (fun _ _ _ h => h) (Or.inl ⟨by rfl, ?_⟩) (by assumption) ?_
      rotate_left
      · (intro w9 hSw; (try dsimp only at hSw); go_simp; try with_reducible rfl)
      try simp only [Act.put, List.setIfInBounds_toArray, List.set_cons_zero, List.set_cons_succ]
      refine wpAnyH_take (i := 4) (oi := { dst := some 70, op := Op.load 47 (Operand.tmp 69), type := 47, pos := "laws.go:878", after := #[{ on := 3, ground := Ground.data }], guard := none }) (v := ?_) rfl (by kernel_rfl) (by kernel_rfl) (by kernel_rfl) (fun _ _ _ h => h) (Or.inl ⟨by rfl, ?_⟩) (by assumption) ?_
      rotate_left
      · (intro w9 hSw; (try dsimp only at hSw); go_simp; try with_reducible rfl)
      try simp only [Act.put, List.setIfInBounds_toArray, List.set_cons_zero, List.set_cons_succ]
      refine wpAnyH_take (i := 5) (oi := { dst := some 71, op := Op.load 47 (Operand.tmp 6), type := 47, pos := "laws.go:878", after := #[], guard := none }) (v := ?_) rfl (by kernel_rfl) (by kernel_rfl) (by kernel_rfl) (fun _ _ _ h => h) (Or.inl ⟨by rfl, ?_⟩) (by assumption) ?_
      rotate_left
      · (intro w9 hSw; (try dsimp only at hSw); go_simp; try with_reducible rfl)
      try simp only [Act.put, List.setIfInBounds_toArray, List.set_cons_zero, List.set_cons_succ]
      refine wpAnyH_take (i := 6) (oi := { dst := some 72, op := Op.binOp BinOp.eql 47 (Operand.tmp 70) (Operand.tmp 71) 47, type := 4, pos := "laws.go:878", after := #[{ on := 4, ground := Ground.data }, { on := 5, ground := Ground.data }], guard := none }) (v := ?_) rfl (by kernel_rfl) (by kernel_rfl) (by kernel_rfl) (fun _ _ _ h => h) (Or.inl ⟨by rfl, ?_⟩) (by assumption) ?_
      rotate_left
      · (intro w9 hSw; (try dsimp only at hSw); go_simp; try with_reducible rfl)
      try simp only [Act.put, List.setIfInBounds_toArray, List.set_cons_zero, List.set_cons_succ]
      refine wpAnyH_take (i := 7) (oi := { dst := some 73, op := Op.move (Operand.tmp 72), type := 4, pos := "laws.go:878", after := #[{ on := 6, ground := Ground.data }], guard := none }) (v := ?_) rfl (by kernel_rfl) (by kernel_rfl) (by kernel_rfl) (fun _ _ _ h => h) (Or.inl ⟨by rfl, ?_⟩) (by assumption) ?_
      rotate_left
      · (intro w9 hSw; (try dsimp only at hSw); go_simp; try with_reducible rfl)
      try simp only [Act.put, List.setIfInBounds_toArray, List.set_cons_zero, List.set_cons_succ]
      refine wpAnyH_take (i := 8) (oi := { dst := some 74, op := Op.fieldAddr 30 (Operand.tmp 7) 2, type := 0, pos := "laws.go:878", after := #[{ on := 7, ground := Ground.guard }], guard := some (7, true) }) (v := ?_) rfl (by kernel_rfl) (by kernel_rfl) (by kernel_rfl) (fun _ _ _ h => h) (Or.inl ⟨by rfl, ?_⟩) (by assumption) ?_
      rotate_left
      · (intro w9 hSw; (try dsimp only at hSw); go_simp; try with_reducible rfl)
      try simp only [Act.put, List.setIfInBounds_toArray, List.set_cons_zero, List.set_cons_succ]
      refine wpAnyH_take (i := 9) (oi := { dst := some 75, op := Op.load 28 (Operand.tmp 74), type := 28, pos := "laws.go:878", after := #[{ on := 8, ground := Ground.data }, { on := 7, ground := Ground.guard }], guard := some (7, true) }) (v := ?_) rfl (by kernel_rfl) (by kernel_rfl) (by kernel_rfl) (fun _ _ _ h => h) (Or.inl ⟨by rfl, ?_⟩) (by assumption) ?_
      rotate_left
      · (intro w9 hSw; (try dsimp only at hSw); go_simp; try with_reducible rfl)
      try simp only [Act.put, List.setIfInBounds_toArray, List.set_cons_zero, List.set_cons_succ]
      refine wpAnyH_take (i := 10) (oi := { dst := some 76, op := Op.fieldAddr 30 (Operand.tmp 4) 2, type := 0, pos := "laws.go:878", after := #[{ on := 7, ground := Ground.guard }], guard := some (7, true) }) (v := ?_) rfl (by kernel_rfl) (by kernel_rfl) (by kernel_rfl) (fun _ _ _ h => h) (Or.inl ⟨by rfl, ?_⟩) (by assumption) ?_
      rotate_left
      · (intro w9 hSw; (try dsimp only at hSw); go_simp; try with_reducible rfl)
      try simp only [Act.put, List.setIfInBounds_toArray, List.set_cons_zero, List.set_cons_succ]
      refine wpAnyH_take (i := 11) (oi := { dst := some 77, op := Op.load 28 (Operand.tmp 76), type := 28, pos := "laws.go:878", after := #[{ on := 10, ground := Ground.data }, { on := 7, ground := Ground.guard }], guard := some (7, true) }) (v := ?_) rfl (by kernel_rfl) (by kernel_rfl) (by kernel_rfl) (fun _ _ _ h => h) (Or.inl ⟨by rfl, ?_⟩) (by assumption) ?_
      rotate_left
      · (intro w9 hSw; (try dsimp only at hSw); go_simp; try with_reducible rfl)
      try simp only [Act.put, List.setIfInBounds_toArray, List.set_cons_zero, List.set_cons_succ]
      refine wpAnyH_ready (rs := [12]) (by kernel_rfl) (by simp) ?_
      refine AllReadyH.cons (i := 12) (o := { dst := some 78, op := Op.call { callee := Callee.value (Operand.func 21), args := #[Operand.tmp 75, Operand.tmp 77], argTypes := #[28, 28] }, type := 4, pos := "laws.go:878", after := #[{ on := 9, ground := Ground.data }, { on := 11, ground := Ground.data }, { on := 7, ground := Ground.chain }, { on := 7, ground := Ground.guard }], guard := some (7, true) }) rfl (fun K hK => ?_) AllReadyH.nil
      go_simp
      refine (sameIvs_c _ _ _ _ ys ys _ ((unhide HJI).2.call (S11.bel hHeld.2)) ((unhide HRW).2.2.2.2.2.call (fut_trans' (unhide HK) (S11.bel hHeld.2)))).mono ?_
      rintro e u9 ⟨rfl, kb⟩
      rw [decide_eq_true (show ys = ys from rfl)]
      have hq := (show (fun u => (u.cell? ⟨rb, ro + k * 2, none⟩ = some (.int .i64 l) ∧ u.cell? ⟨rb, ro + k * 2 + 1, none⟩ = some (.int .i64 g)) ∧ S11 v1 u1.heap.size pj (.slice a1 vs.length c1) (.slice a2 fs.length c2) (.slice a3 rs.length c3) (.bool li) (.slice oa xs.length ca) (.slice ob ys.length cb) (.bool true) (.slice (some ⟨rb, ro, none⟩) xs.length cx) (.slice oy ys.length cy) l g u) u9 from ⟨⟨(((fut_trans' (S11.bel hHeld.2) kb)).cell (World.block_lt_of_cell? v1 _ (unhide HC0).1)).trans (unhide HC0).1, (((fut_trans' (S11.bel hHeld.2) kb)).cell (World.block_lt_of_cell? v1 _ (unhide HC0).2)).trans (unhide HC0).2⟩, S11.of ((unhide HB1).call (unhide HK)) ((unhide HB2).call (unhide HK)) ((unhide HB3).call (unhide HK)) (unhide HJB) ((fut_trans' (S11.bel hHeld.2) kb))⟩)
      clear kb hHeld
      refine hK.out _ _ hq (fun hHeld => ?_)
      clear hK K hq
      try simp only [Act.put, List.setIfInBounds_toArray, List.set_cons_zero, List.set_cons_succ]
      refine wpAnyH_take (i := 13) (oi := { dst := some 79, op := Op.pick (Operand.tmp 73) (Operand.tmp 78) (Operand.const (Value.bool false)), type := 4, pos := "laws.go:878", after := #[{ on := 7, ground := Ground.data }, { on := 12, ground := Ground.data }], guard := none }) (v := ?_) rfl (by kernel_rfl) (by kernel_rfl) (by kernel_rfl) (fun _ _ _ h => h) (Or.inl ⟨by rfl, ?_⟩) (by assumption) ?_
      rotate_left
      · (intro w9 hSw; (try dsimp only at hSw); go_simp; try with_reducible rfl)
      try simp only [Act.put, List.setIfInBounds_toArray, List.set_cons_zero, List.set_cons_succ]
      refine wpAnyH_take (i := 14) (oi := { dst := some 80, op := Op.move (Operand.tmp 79), type := 4, pos := "laws.go:878", after := #[{ on := 13, ground := Ground.data }, { on := 12, ground := Ground.chain }], guard := none }) (v := ?_) rfl (by kernel_rfl) (by kernel_rfl) (by kernel_rfl) (fun _ _ _ h => h) (Or.inl ⟨by rfl, ?_⟩) (by assumption) ?_
      rotate_left
      · (intro w9 hSw; (try dsimp only at hSw); go_simp; try with_reducible rfl)
      try simp only [Act.put, List.setIfInBounds_toArray, List.set_cons_zero, List.set_cons_succ]
      refine wpAnyH_take (i := 15) (oi := { dst := some 81, op := Op.fieldAddr 30 (Operand.tmp 7) 1, type := 0, pos := "laws.go:878", after := #[{ on := 14, ground := Ground.guard }], guard := some (14, true) }) (v := ?_) rfl (by kernel_rfl) (by kernel_rfl) (by kernel_rfl) (fun _ _ _ h => h) (Or.inl ⟨by rfl, ?_⟩) (by assumption) ?_
      rotate_left
      · (intro w9 hSw; (try dsimp only at hSw); go_simp; try with_reducible rfl)
      try simp only [Act.put, List.setIfInBounds_toArray, List.set_cons_zero, List.set_cons_succ]
      refine wpAnyH_take (i := 16) (oi := { dst := some 82, op := Op.load 28 (Operand.tmp 81), type := 28, pos := "laws.go:878", after := #[{ on := 15, ground := Ground.data }, { on := 14, ground := Ground.guard }], guard := some (14, true) }) (v := ?_) rfl (by kernel_rfl) (by kernel_rfl) (by kernel_rfl) (fun _ _ _ h => h) (Or.inl ⟨by rfl, ?_⟩) (by assumption) ?_
      rotate_left
      · (intro w9 hSw; (try dsimp only at hSw); go_simp; try with_reducible rfl)
      try simp only [Act.put, List.setIfInBounds_toArray, List.set_cons_zero, List.set_cons_succ]
      refine wpAnyH_take (i := 17) (oi := { dst := some 83, op := Op.call { callee := Callee.builtin Builtin.len, args := #[Operand.tmp 82], argTypes := #[28] }, type := 3, pos := "laws.go:878", after := #[{ on := 16, ground := Ground.data }, { on := 14, ground := Ground.guard }], guard := some (14, true) }) (v := ?_) rfl (by kernel_rfl) (by kernel_rfl) (by kernel_rfl) (fun _ _ _ h => h) (Or.inl ⟨by rfl, ?_⟩) (by assumption) ?_
      rotate_left
      · (intro w9 hSw; (try dsimp only at hSw); go_simp; try with_reducible rfl)
      try simp only [Act.put, List.setIfInBounds_toArray, List.set_cons_zero, List.set_cons_succ]
      refine wpAnyH_take (i := 18) (oi := { dst := some 84, op := Op.fieldAddr 30 (Operand.tmp 4) 1, type := 0, pos := "laws.go:878", after := #[{ on := 14, ground := Ground.guard }], guard := some (14, true) }) (v := ?_) rfl (by kernel_rfl) (by kernel_rfl) (by kernel_rfl) (fun _ _ _ h => h) (Or.inl ⟨by rfl, ?_⟩) (by assumption) ?_
      rotate_left
      · (intro w9 hSw; (try dsimp only at hSw); go_simp; try with_reducible rfl)
      try simp only [Act.put, List.setIfInBounds_toArray, List.set_cons_zero, List.set_cons_succ]
      refine wpAnyH_take (i := 19) (oi := { dst := some 85, op := Op.load 28 (Operand.tmp 84), type := 28, pos := "laws.go:878", after := #[{ on := 18, ground := Ground.data }, { on := 14, ground := Ground.guard }], guard := some (14, true) }) (v := ?_) rfl (by kernel_rfl) (by kernel_rfl) (by kernel_rfl) (fun _ _ _ h => h) (Or.inl ⟨by rfl, ?_⟩) (by assumption) ?_
      rotate_left
      · (intro w9 hSw; (try dsimp only at hSw); go_simp; try with_reducible rfl)
      try simp only [Act.put, List.setIfInBounds_toArray, List.set_cons_zero, List.set_cons_succ]
      refine wpAnyH_take (i := 20) (oi := { dst := some 86, op := Op.call { callee := Callee.builtin Builtin.len, args := #[Operand.tmp 85], argTypes := #[28] }, type := 3, pos := "laws.go:878", after := #[{ on := 19, ground := Ground.data }, { on := 14, ground := Ground.guard }], guard := some (14, true) }) (v := ?_) rfl (by kernel_rfl) (by kernel_rfl) (by kernel_rfl) (fun _ _ _ h => h) (Or.inl ⟨by rfl, ?_⟩) (by assumption) ?_
      rotate_left
      · (intro w9 hSw; (try dsimp only at hSw); go_simp; try with_reducible rfl)
      try simp only [Act.put, List.setIfInBounds_toArray, List.set_cons_zero, List.set_cons_succ]
      refine wpAnyH_take (i := 21) (oi := { dst := some 87, op := Op.binOp BinOp.eql 3 (Operand.tmp 83) (Operand.tmp 86) 3, type := 4, pos := "laws.go:878", after := #[{ on := 17, ground := Ground.data }, { on := 20, ground := Ground.data }, { on := 14, ground := Ground.guard }], guard := some (14, true) }) (v := ?_) rfl (by kernel_rfl) (by kernel_rfl) (by kernel_rfl) (fun _ _ _ h => h) (Or.inl ⟨by rfl, ?_⟩) (by assumption) ?_
      rotate_left
      · (intro w9 hSw; (try dsimp only at hSw); go_simp; try with_reducible rfl)
      try simp only [Act.put, List.setIfInBounds_toArray, List.set_cons_zero, List.set_cons_succ]
      refine wpAnyH_take (i := 22) (oi := { dst := some 88, op := Op.pick (Operand.tmp 80) (Operand.tmp 87) (Operand.const (Value.bool false)), type := 4, pos := "laws.go:878", after := #[{ on := 14, ground := Ground.data }, { on := 21, ground := Ground.data }], guard := none }) (v := ?_) rfl (by kernel_rfl) (by kernel_rfl) (by kernel_rfl) (fun _ _ _ h => h) (Or.inl ⟨by rfl, ?_⟩) (by assumption) ?_
      rotate_left
      · (intro w9 hSw; (try dsimp only at hSw); go_simp; try with_reducible rfl)
      try simp only [Act.put, List.setIfInBounds_toArray, List.set_cons_zero, List.set_cons_succ]
      refine wpAnyH_take (i := 23) (oi := { dst := some 2, op := Op.assign (Operand.tmp 88), type := 4, pos := "laws.go:878", after := #[{ on := 22, ground := Ground.data }, { on := 14, ground := Ground.chain }, { on := 0, ground := Ground.phase }, { on := 1, ground := Ground.phase }, { on := 2, ground := Ground.phase }, { on := 3, ground := Ground.phase }, { on := 4, ground := Ground.phase }, { on := 5, ground := Ground.phase }, { on := 6, ground := Ground.phase }, { on := 7, ground := Ground.phase }, { on := 8, ground := Ground.phase }, { on := 9, ground := Ground.phase }, { on := 10, ground := Ground.phase }, { on := 11, ground := Ground.phase }, { on := 12, ground := Ground.phase }, { on := 13, ground := Ground.phase }, { on := 14, ground := Ground.phase }, { on := 15, ground := Ground.phase }, { on := 16, ground := Ground.phase }, { on := 17, ground := Ground.phase }, { on := 18, ground := Ground.phase }, { on := 19, ground := Ground.phase }, { on := 20, ground := Ground.phase }, { on := 21, ground := Ground.phase }, { on := 22, ground := Ground.phase }], guard := none }) (v := ?_) rfl (by kernel_rfl) (by kernel_rfl) (by kernel_rfl) (fun _ _ _ h => h) (Or.inl ⟨by rfl, ?_⟩) (by assumption) ?_
      rotate_left
      · (intro w9 hSw; (try dsimp only at hSw); go_simp; try with_reducible rfl)
      try simp only [Act.put, List.setIfInBounds_toArray, List.set_cons_zero, List.set_cons_succ]
      refine wpAnyH_done (by kernel_rfl) ?_ _
      have HB := hide ((unhide HB).trans ((fut_trans' (unhide HK) (S11.bel hHeld.2)).mono (unhide HB).size))
      clear hHeld
      go_wp2
      go_ret
      exact ⟨by first | rfl | (simp; done), unhide HB⟩
end Go.Proofs.YthpnbmdmkmkicaaDoor
