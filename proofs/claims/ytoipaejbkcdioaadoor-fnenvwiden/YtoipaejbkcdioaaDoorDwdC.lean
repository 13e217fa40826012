/- What is drawn for a widening. -/
import Derived.Test.YtoipaejbkcdioaaDoorJnZ
import Derived.Test.YtoipaejbkcdioaaDoorStpC
namespace Go.Proofs.YtoipaejbkcdioaaDoor
open Go.RowKit Go.Iv
set_option linter.unusedSimpArgs false
set_option linter.unusedVariables false

theorem Ints.at3 {u v : World} {a : Option Addr} {xs : List Int} (h : Ints u a xs) (hb : ∀ x, a = some x → 0 < xs.length → v.heap[x.block]? = u.heap[x.block]?) : Ints v a xs := by
  refine ⟨h.1, ?_⟩
  rcases h.2 with h0 | ⟨cb, co, rfl, hc⟩
  · exact .inl h0
  · exact .inr ⟨cb, co, rfl, fun i hi => (World.cell?_of_block (w := u) (a := ⟨cb, co + i, none⟩) (hb ⟨cb, co, none⟩ rfl (by omega))).trans (hc i hi)⟩
theorem DeC.call {u v : World} {n : Nat} {a1 a2 a3 oa ob oc od : Option Addr} {vs fs : List ByteArray} {rs : List (ByteArray × Int)} {xs ys xs2 ys2 : List (Int × Int)} (h : DeC u n a1 a2 a3 oa ob oc od vs fs rs xs ys xs2 ys2) (k : Below u.heap.size u v) : DeC v n a1 a2 a3 oa ob oc od vs fs rs xs ys xs2 ys2 := h.at' fun g _ h2 => k.block g h2
/-- A declaration, two bounds, and steps. -/
def DwR (w : World) (e : Ending) (w' : World) : Prop := ∃ (a1 a2 a3 : Option Addr) (c1 c2 c3 : Nat) (vs fs : List ByteArray) (rs : List (ByteArray × Int)) (li : Bool) (oa : Option Addr) (ca : Nat) (ob : Option Addr) (cb : Nat) (xs ys : List (Int × Int)) (lj : Bool) (oc : Option Addr) (cc : Nat) (od : Option Addr) (cd : Nat) (xs2 ys2 : List (Int × Int)) (sg sc : Nat) (st : List Int),
  e = .returned (.tuple #[.agg #[.slice a1 vs.length c1, .slice a2 fs.length c2, .slice a3 rs.length c3], .agg #[.bool li, .slice oa xs.length ca, .slice ob ys.length cb], .agg #[.bool lj, .slice oc xs2.length cc, .slice od ys2.length cd], .slice (some ⟨sg, 0, none⟩) st.length sc]) ∧ Strs w' a1 vs ∧ Strs w' a2 fs ∧ Arrs w' a3 rs ∧ (∀ x ∈ namesOf vs fs rs, x.size ≤ 1048576) ∧ (Ivs w' oa xs ∧ Ivs w' ob ys) ∧ (Ivs w' oc xs2 ∧ Ivs w' od ys2) ∧ (InL xs ∧ InL ys ∧ InL xs2 ∧ InL ys2) ∧ Ints w' (some ⟨sg, 0, none⟩) st ∧ Below w.heap.size w w'
set_option maxRecDepth 20000 in
set_option maxHeartbeats 16000000 in
theorem DrawEnvWiden_c (a : Option Addr) (len cap : Nat) (w : World) (h : Code w a len) : Calls Tryd.prog 22 #[.slice a len cap] w (DwR w) := by
  have HC := hide h
  clear h
  have q0 := B3.new w (.slice none 0 0) (.slice none 0 0) (.slice none 0 0) (.bool false) (.slice none 0 0) (.slice none 0 0) (.bool false) (.slice none 0 0) (.slice none 0 0) 27 30 30
  have hs0 : w.heap.size + 3 ≤ (((w.alloc (Obj.cells #[.slice none 0 0, .slice none 0 0, .slice none 0 0] 27)).alloc (Obj.cells #[.bool false, .slice none 0 0, .slice none 0 0] 30)).alloc (Obj.cells #[.bool false, .slice none 0 0, .slice none 0 0] 30)).heap.size := by simp
  go_enter Tryd.func22, Tryd.ntmps22
  go_wp2_with fail
  generalize ((w.alloc (Obj.cells #[.slice none 0 0, .slice none 0 0, .slice none 0 0] 27)).alloc (Obj.cells #[.bool false, .slice none 0 0, .slice none 0 0] 30)).alloc (Obj.cells #[.bool false, .slice none 0 0, .slice none 0 0] 30) = u0 at q0 hs0 ⊢
  have HQ := hide q0
  clear q0
  refine (DrawEnvLeq_c a len cap u0 ((unhide HC).below (unhide HQ).2.2.2)).mono ?_
  rintro e u1 ⟨a1, a2, a3, c1, c2, c3, vs, fs, rs, li, oa, ca, ob, cb, xs, ys, lj, oc, cc, od, cd, xs2, ys2, rfl, s1, s2, s3, hz, i12, i34, hin, hfar, kb⟩
  have HD := hide (show DeC u1 u0.heap.size a1 a2 a3 oa ob oc od vs fs rs xs ys xs2 ys2 from ⟨s1, s2, s3, i12, i34, hfar⟩)
  have HZ := hide hz
  have HI := hide hin
  have HQ := hide ((unhide HQ).call kb)
  have hs1 := kb.size
  clear s1 s2 s3 i12 i34 hfar hz hin kb
  have HBX := hide (B3.new u1 (.slice a1 vs.length c1) (.slice a2 fs.length c2) (.slice a3 rs.length c3) (.bool li) (.slice oa xs.length ca) (.slice ob ys.length cb) (.bool lj) (.slice oc xs2.length cc) (.slice od ys2.length cd) 27 30 30)
  have ka := (((Below.refl _ u1).alloc (Nat.le_refl _) (Obj.cells #[.slice a1 vs.length c1, .slice a2 fs.length c2, .slice a3 rs.length c3] 27)).alloc (by simp) (Obj.cells #[.bool li, .slice oa xs.length ca, .slice ob ys.length cb] 30)).alloc (by simp; omega) (Obj.cells #[.bool lj, .slice oc xs2.length cc, .slice od ys2.length cd] 30)
  have HQ := hide ((unhide HQ).call ka)
  have HD := hide ((unhide HD).call ka)
  have hs2 : u1.heap.size + 3 ≤ (((u1.alloc (Obj.cells #[.slice a1 vs.length c1, .slice a2 fs.length c2, .slice a3 rs.length c3] 27)).alloc (Obj.cells #[.bool li, .slice oa xs.length ca, .slice ob ys.length cb] 30)).alloc (Obj.cells #[.bool lj, .slice oc xs2.length cc, .slice od ys2.length cd] 30)).heap.size := by simp
  clear ka
  go_upto_region 2 with fail
  generalize ((u1.alloc (Obj.cells #[.slice a1 vs.length c1, .slice a2 fs.length c2, .slice a3 rs.length c3] 27)).alloc (Obj.cells #[.bool li, .slice oa xs.length ca, .slice ob ys.length cb] 30)).alloc (Obj.cells #[.bool lj, .slice oc xs2.length cc, .slice od ys2.length cd] 30) = u2 at HBX HQ HD hs2 ⊢
  go_wp2_with fail
  refine (open_c a len cap _).mono ?_
  rintro e u3 ⟨rfl, he⟩
  have hl := open_rdr a len cap u2 ((unhide HC).below (unhide HQ).2.2.2)
  rw [← he] at hl
  clear he
  have HLO := hide hl
  clear hl
  have hs3 := (unhide HLO).2.size
  have HR2 := hide ((unhide HQ).1.kp (unhide HLO).2 (by omega))
  have HR3 := hide ((unhide HQ).2.1.kp (unhide HLO).2 (by omega))
  have HR4 := hide (show C3 u3 (w.heap.size + 1 + 1) _ _ _ from (unhide HQ).2.2.1.kp (unhide HLO).2 (by omega))
  have HGD := hide ((unhide HBX).1.kp (unhide HLO).2 (by omega))
  have HGA := hide ((unhide HBX).2.1.kp (unhide HLO).2 (by omega))
  have HGB := hide (show C3 u3 (u1.heap.size + 1 + 1) _ _ _ from (unhide HBX).2.2.1.kp (unhide HLO).2 (by omega))
  have HKB : Hid (∀ g, g < u2.heap.size → u3.heap[g]? = u2.heap[g]?) := fun g h2 => (unhide HLO).2.block g h2 (by omega)
  have HB := hide ((unhide HQ).2.2.2.trans ((unhide HLO).2.below (by omega) (unhide HQ).2.2.2.size))
  have HL := hide (unhide HLO).1
  clear HQ HBX HLO
  go_upto_region 3 with fail
  obtain ⟨wz, hwz⟩ : ∃ x, x = u3.drew := ⟨_, rfl⟩
  have HR2 := hide (show C3 wz w.heap.size _ _ _ by rw [hwz]; exact unhide HR2)
  have HR3 := hide (show C3 wz (w.heap.size + 1) _ _ _ by rw [hwz]; exact unhide HR3)
  have HR4 := hide (show C3 wz (w.heap.size + 1 + 1) _ _ _ by rw [hwz]; exact unhide HR4)
  have HGD := hide (show C3 wz u1.heap.size _ _ _ by rw [hwz]; exact unhide HGD)
  have HGA := hide (show C3 wz (u1.heap.size + 1) _ _ _ by rw [hwz]; exact unhide HGA)
  have HGB := hide (show C3 wz (u1.heap.size + 1 + 1) _ _ _ by rw [hwz]; exact unhide HGB)
  have HKB : Hid (∀ g, g < u2.heap.size → wz.heap[g]? = u2.heap[g]?) := by rw [hwz]; exact unhide HKB
  have HB := hide (show Below w.heap.size w wz by rw [hwz]; exact (unhide HB).drew)
  have HL := hide (show Rdr wz u2.heap.size a len cap by rw [hwz]; exact unhide HL)
  have hzz : u3.heap.size ≤ wz.heap.size := by rw [hwz]; exact Nat.le_refl _
  refine wp_region_held_drew (S := S7 u1.heap.size (u1.heap.size + 1) (u1.heap.size + 1 + 1) (.slice a1 vs.length c1) (.slice a2 fs.length c2) (.slice a3 rs.length c3) (.bool li) (.slice oa xs.length ca) (.slice ob ys.length cb) (.bool lj) (.slice oc xs2.length cc) (.slice od ys2.length cd)) (by kernel_rfl) (by rw [← hwz]; exact S7.of (unhide HGD) (unhide HGA) (unhide HGB)) (fun hHeld => ?_)
  rw [← hwz] at hHeld ⊢
  clear hwz
  refine wpAnyH_take (i := 0) (oi := { dst := some 18, op := Op.load 27 (Operand.tmp 6), type := 27, pos := "l06_bounds.go:247", after := #[], guard := none }) (v := ?_) rfl (by kernel_rfl) (by kernel_rfl) (by kernel_rfl) (fun _ _ _ h => h) (Or.inl ⟨by rfl, ?_⟩) (by assumption) ?_
  rotate_left
  · (intro w9 hSw; (try dsimp only at hSw); go_simp; try with_reducible rfl)
  try simp only [Act.put, List.setIfInBounds_toArray, List.set_cons_zero, List.set_cons_succ]
  refine wpAnyH_take (i := 1) (oi := { dst := some 19, op := Op.load 30 (Operand.tmp 7), type := 30, pos := "l06_bounds.go:247", after := #[{ on := 5, ground := Ground.gcOnly Departure.lateStores }], guard := none }) (v := ?_) rfl (by kernel_rfl) (by kernel_rfl) (by kernel_rfl) (fun _ _ _ h => h) (Or.inl ⟨by rfl, ?_⟩) (by assumption) ?_
  rotate_left
  · (intro w9 hSw; (try dsimp only at hSw); go_simp; try with_reducible rfl)
  try simp only [Act.put, List.setIfInBounds_toArray, List.set_cons_zero, List.set_cons_succ]
  refine wpAnyH_take (i := 2) (oi := { dst := some 20, op := Op.load 30 (Operand.tmp 8), type := 30, pos := "l06_bounds.go:247", after := #[{ on := 6, ground := Ground.gcOnly Departure.lateStores }], guard := none }) (v := ?_) rfl (by kernel_rfl) (by kernel_rfl) (by kernel_rfl) (fun _ _ _ h => h) (Or.inl ⟨by rfl, ?_⟩) (by assumption) ?_
  rotate_left
  · (intro w9 hSw; (try dsimp only at hSw); go_simp; try with_reducible rfl)
  try simp only [Act.put, List.setIfInBounds_toArray, List.set_cons_zero, List.set_cons_succ]
  refine wpAnyH_take (i := 3) (oi := { dst := some 21, op := Op.move (Operand.tmp 9), type := 51, pos := "l06_bounds.go:247", after := #[], guard := none }) (v := ?_) rfl (by kernel_rfl) (by kernel_rfl) (by kernel_rfl) (fun _ _ _ h => h) (Or.inl ⟨by rfl, ?_⟩) (by assumption) ?_
  rotate_left
  · (intro w9 hSw; (try dsimp only at hSw); go_simp; try with_reducible rfl)
  try simp only [Act.put, List.setIfInBounds_toArray, List.set_cons_zero, List.set_cons_succ]
  refine wpAnyH_ready (rs := [4]) (by kernel_rfl) (by simp) ?_
  refine AllReadyH.cons (i := 4) (o := { dst := some 22, op := Op.call { callee := Callee.value (Operand.func 54), args := #[Operand.tmp 21], argTypes := #[51] }, type := 33, pos := "l06_bounds.go:247", after := #[{ on := 3, ground := Ground.data }], guard := none }) rfl (fun K hK => ?_) AllReadyH.nil
  go_simp
  refine (steps_c _ _ _ _ _ (unhide HL)).mono ?_
  rintro e v1 ⟨sg, sc, st, rfl, hsg, hst, hl⟩
  have HST := hide hst
  have HR2 := hide ((unhide HR2).kp hl.2 (by omega))
  have HR3 := hide ((unhide HR3).kp hl.2 (by omega))
  have HR4 := hide ((unhide HR4).kp hl.2 (by omega))
  have HGD := hide ((unhide HGD).kp hl.2 (by omega))
  have HGA := hide ((unhide HGA).kp hl.2 (by omega))
  have HGB := hide ((unhide HGB).kp hl.2 (by omega))
  have HD := hide ((unhide HD).at' (fun g _ h2 => (hl.2.block g (by omega) (by omega)).trans ((unhide HKB) g h2)))
  have HB := hide ((unhide HB).trans (hl.2.below (by omega) (unhide HB).size))
  have HKP := hide hl.2
  clear hst hl
  refine hK.out _ _ (S7.of (unhide HGD) (unhide HGA) (unhide HGB)) (fun hHeld => ?_)
  clear hK K
  try simp only [Act.put, List.setIfInBounds_toArray, List.set_cons_zero, List.set_cons_succ]
  have r0 := (unhide HR2).1
  have r1 := (unhide HR2).2.1
  have r2 := (unhide HR2).2.2.1
  have s0 := (unhide HR3).1
  have s1 := (unhide HR3).2.1
  have s2 := (unhide HR3).2.2.1
  have t0 := (unhide HR4).1
  have t1 := (unhide HR4).2.1
  have t2 := (unhide HR4).2.2.1
  have rf0 := (unhide HR2).2.2.2 0
  have rf1 := (unhide HR2).2.2.2 1
  have rf2 := (unhide HR2).2.2.2 2
  have sf0 := (unhide HR3).2.2.2 0
  have sf1 := (unhide HR3).2.2.2 1
  have sf2 := (unhide HR3).2.2.2 2
  have tf0 := (unhide HR4).2.2.2 0
  have tf1 := (unhide HR4).2.2.2 1
  have tf2 := (unhide HR4).2.2.2 2
  have nw1 : w.heap.size ≠ w.heap.size + 1 := by omega
  have nw2 : w.heap.size ≠ w.heap.size + 1 + 1 := by omega
  have nw3 : w.heap.size + 1 ≠ w.heap.size + 1 + 1 := by omega
  refine wpAnyH_ready (rs := [5]) (by kernel_rfl) (by simp) ?_
  refine AllReadyH.cons (i := 5) (o := { dst := none, op := Op.store 27 (Operand.tmp 2) (Operand.tmp 18), type := 0, pos := "l06_bounds.go:247", after := #[{ on := 0, ground := Ground.data }, { on := 4, ground := Ground.chain }, { on := 0, ground := Ground.phase }, { on := 1, ground := Ground.textOnly Departure.lateStores }, { on := 2, ground := Ground.textOnly Departure.lateStores }, { on := 3, ground := Ground.textOnly Departure.lateStores }, { on := 4, ground := Ground.textOnly Departure.lateStoresUnsure }], guard := none }) rfl (fun K hK => ?_) AllReadyH.nil
  go_simp
  refine hK.out _ _ (S7.set (S7.set (S7.set hHeld (by omega) (by omega) (by omega) _) (by omega) (by omega) (by omega) _) (by omega) (by omega) (by omega) _) (fun hHeld => ?_)
  clear hK K
  try simp only [Act.put, List.setIfInBounds_toArray, List.set_cons_zero, List.set_cons_succ]
  refine wpAnyH_ready (rs := [6]) (by kernel_rfl) (by simp) ?_
  refine AllReadyH.cons (i := 6) (o := { dst := none, op := Op.store 30 (Operand.tmp 3) (Operand.tmp 19), type := 0, pos := "l06_bounds.go:247", after := #[{ on := 1, ground := Ground.data }, { on := 5, ground := Ground.chain }, { on := 0, ground := Ground.phase }, { on := 1, ground := Ground.phase }, { on := 2, ground := Ground.textOnly Departure.lateStores }, { on := 3, ground := Ground.textOnly Departure.lateStores }, { on := 4, ground := Ground.textOnly Departure.lateStoresUnsure }, { on := 5, ground := Ground.phase }], guard := none }) rfl (fun K hK => ?_) AllReadyH.nil
  go_simp
  refine hK.out _ _ (S7.set (S7.set (S7.set hHeld (by omega) (by omega) (by omega) _) (by omega) (by omega) (by omega) _) (by omega) (by omega) (by omega) _) (fun hHeld => ?_)
  clear hK K
  try simp only [Act.put, List.setIfInBounds_toArray, List.set_cons_zero, List.set_cons_succ]
  refine wpAnyH_ready (rs := [7]) (by kernel_rfl) (by simp) ?_
  refine AllReadyH.cons (i := 7) (o := { dst := none, op := Op.store 30 (Operand.tmp 4) (Operand.tmp 20), type := 0, pos := "l06_bounds.go:247", after := #[{ on := 2, ground := Ground.data }, { on := 6, ground := Ground.chain }, { on := 0, ground := Ground.phase }, { on := 1, ground := Ground.phase }, { on := 2, ground := Ground.phase }, { on := 3, ground := Ground.textOnly Departure.lateStores }, { on := 4, ground := Ground.textOnly Departure.lateStoresUnsure }, { on := 5, ground := Ground.phase }, { on := 6, ground := Ground.phase }], guard := none }) rfl (fun K hK => ?_) AllReadyH.nil
  go_simp
  refine hK.out _ _ (S7.set (S7.set (S7.set hHeld (by omega) (by omega) (by omega) _) (by omega) (by omega) (by omega) _) (by omega) (by omega) (by omega) _) (fun hHeld => ?_)
  clear hK K
  try simp only [Act.put, List.setIfInBounds_toArray, List.set_cons_zero, List.set_cons_succ]
  refine wpAnyH_take (i := 8) (oi := { dst := some 5, op := Op.assign (Operand.tmp 22), type := 33, pos := "l06_bounds.go:247", after := #[{ on := 4, ground := Ground.data }, { on := 7, ground := Ground.chain }, { on := 0, ground := Ground.phase }, { on := 1, ground := Ground.phase }, { on := 2, ground := Ground.phase }, { on := 3, ground := Ground.phase }, { on := 4, ground := Ground.phase }, { on := 5, ground := Ground.phase }, { on := 6, ground := Ground.phase }, { on := 7, ground := Ground.phase }], guard := none }) (v := ?_) rfl (by kernel_rfl) (by kernel_rfl) (by kernel_rfl) (fun _ _ _ h => h) (Or.inl ⟨by rfl, ?_⟩) (by assumption) ?_
  rotate_left
  · (intro w9 hSw; (try dsimp only at hSw); go_simp; try with_reducible rfl)
  try simp only [Act.put, List.setIfInBounds_toArray, List.set_cons_zero, List.set_cons_succ]
  refine wpAnyH_done (by kernel_rfl) ?_ _
  clear hHeld
  go_wp2
  have bD := DeC.w9 (unhide HD) (p := w.heap.size) (q := w.heap.size + 1) (r := w.heap.size + 1 + 1) (x0 := .slice a1 vs.length c1) (x1 := .slice a2 fs.length c2) (x2 := .slice a3 rs.length c3) (x3 := .bool li) (x4 := .slice oa xs.length ca) (x5 := .slice ob ys.length cb) (x6 := .bool lj) (x7 := .slice oc xs2.length cc) (x8 := .slice od ys2.length cd) (by omega) (by omega) (by omega)
  have bS := (unhide HST).at3 (v := W9 v1 w.heap.size (w.heap.size + 1) (w.heap.size + 1 + 1) (.slice a1 vs.length c1) (.slice a2 fs.length c2) (.slice a3 rs.length c3) (.bool li) (.slice oa xs.length ca) (.slice ob ys.length cb) (.bool lj) (.slice oc xs2.length cc) (.slice od ys2.length cd)) (fun x e _ => by cases e; exact w9_heap _ _ _ _ _ _ _ _ _ _ _ _ _ _ (by show sg ≠ _; omega) (by show sg ≠ _; omega) (by show sg ≠ _; omega))
  exact bodyPost_ret (v := .tuple #[.agg #[.slice a1 vs.length c1, .slice a2 fs.length c2, .slice a3 rs.length c3], .agg #[.bool li, .slice oa xs.length ca, .slice ob ys.length cb], .agg #[.bool lj, .slice oc xs2.length cc, .slice od ys2.length cd], .slice (some ⟨sg, 0, none⟩) st.length sc]) (by simp [results, Tryd.results22, go_sem, r0, r1, r2, s0, s1, s2, t0, t1, t2]) rfl ⟨a1, a2, a3, c1, c2, c3, vs, fs, rs, li, oa, ca, ob, cb, xs, ys, lj, oc, cc, od, cd, xs2, ys2, sg, sc, st, rfl, bD.1, bD.2.1, bD.2.2.1, unhide HZ, bD.2.2.2.1, bD.2.2.2.2.1, unhide HI, bS, below_w9 (unhide HB) (Nat.le_refl _) (Nat.le_succ _) (by omega)⟩
end Go.Proofs.YtoipaejbkcdioaaDoor
