/- What is drawn for a place of an array. -/
import Derived.Test.YthpnbmdmkmkicaaDoorDjZ
import Derived.Test.YthpnbmdmkmkicaaDoorGrwC
namespace Go.Proofs.YthpnbmdmkmkicaaDoor
open Go.RowKit Go.Iv
set_option linter.unusedSimpArgs false
set_option linter.unusedVariables false

abbrev W10 (v : World) (p q r s : Nat) (x0 x1 x2 x3 x4 x5 x6 x7 x8 x9 : Value) : World := ((W8 v p q r x0 x1 x2 x3 x4 x5 x6 x7).setCell ⟨s, 0, none⟩ x8).setCell ⟨s, 1, none⟩ x9
theorem w10_heap (v : World) (p q r s g : Nat) (x0 x1 x2 x3 x4 x5 x6 x7 x8 x9 : Value) (hp : g ≠ p) (hq : g ≠ q) (hr : g ≠ r) (hs : g ≠ s) : (W10 v p q r s x0 x1 x2 x3 x4 x5 x6 x7 x8 x9).heap[g]? = v.heap[g]? := by
  unfold W10
  exact (Below.heap_setCell _ _ _ _ (by exact hs)).trans ((Below.heap_setCell _ _ _ _ (by exact hs)).trans (w8_heap v p q r g x0 x1 x2 x3 x4 x5 x6 x7 hp hq hr))
theorem below_w10 {u v : World} {B p q r s : Nat} {x0 x1 x2 x3 x4 x5 x6 x7 x8 x9 : Value} (h : Below B u v) (hp : B ≤ p) (hq : B ≤ q) (hr : B ≤ r) (hs : B ≤ s) : Below B u (W10 v p q r s x0 x1 x2 x3 x4 x5 x6 x7 x8 x9) :=
  ((below_w8 h hp hq hr).setCell (show B ≤ (⟨s, 0, none⟩ : Addr).block from hs) _).setCell (show B ≤ (⟨s, 1, none⟩ : Addr).block from hs) _
theorem CI.setF {u : World} {c o b : Nat} {l g : Int} (h : CI u b l g) (hc : c ≠ b) (p : Value) : CI (u.setCell ⟨c, o, none⟩ p) b l g := h.set hc p
/-- The one array's name. -/
def nmA : ByteArray := { data := #[97] }
theorem one_arr (W : World) (s : Int) : Arrs (W.alloc (Obj.cells #[.string { data := #[97] }, .int .i64 s] 59)) (some ⟨W.heap.size, 0, none⟩) [(nmA, s)] := by
  refine ⟨by simp, .inr ⟨W.heap.size, 0, rfl, fun i hi => ?_⟩⟩
  have e : i = 0 := by simp at hi; omega
  subst e
  constructor <;> simp [go_sem, nmA]
/-- A declaration with one array, bounds, a place, two intervals. -/
def DpR (w : World) (e : Ending) (w' : World) : Prop := ∃ (a1 a2 : Option Addr) (lt c1 c2 : Nat) (vs fs : List ByteArray) (s : Int) (li : Bool) (oa : Option Addr) (ca : Nat) (ob : Option Addr) (cb : Nat) (xs ys : List (Int × Int)) (p pl ph l g : Int),
  e = .returned (.tuple #[.agg #[.slice a1 vs.length c1, .slice a2 fs.length c2, .slice (some ⟨lt, 0, none⟩) 1 1], .agg #[.bool li, .slice oa xs.length ca, .slice ob ys.length cb], .int .i64 p, .agg #[.int .i64 pl, .int .i64 ph], .agg #[.int .i64 l, .int .i64 g]]) ∧ Strs w' a1 vs ∧ Strs w' a2 fs ∧ Arrs w' (some ⟨lt, 0, none⟩) [(nmA, s)] ∧ (∀ x ∈ namesOf vs fs [(nmA, s)], x.size ≤ 1048576) ∧ (Ivs w' oa xs ∧ Ivs w' ob ys) ∧ (InL xs ∧ InL ys) ∧ (In p ∧ (In pl ∧ In ph) ∧ In l ∧ In g) ∧ Below w.heap.size w w'
set_option maxRecDepth 20000 in
set_option maxHeartbeats 16000000 in
theorem DrawEnvPut_c (a : Option Addr) (len cap : Nat) (w : World) (h : Code w a len) : Calls Tryd.prog 22 #[.slice a len cap] w (DpR w) := by
  have HC := hide h
  clear h
  go_enter Tryd.func22, Tryd.ntmps22
  go_wp2_with fail
  have r2 := (((C3.new w (.slice none 0 0) (.slice none 0 0) (.slice none 0 0) 27).alloc (Obj.cells #[.bool false, .slice none 0 0, .slice none 0 0] 30)).alloc (Obj.cells #[.int .i64 0, .int .i64 0] 47)).alloc (Obj.cells #[.int .i64 0, .int .i64 0] 47)
  have r3 := ((C3.new (w.alloc (Obj.cells #[.slice none 0 0, .slice none 0 0, .slice none 0 0] 27)) (.bool false) (.slice none 0 0) (.slice none 0 0) 30).alloc (Obj.cells #[.int .i64 0, .int .i64 0] 47)).alloc (Obj.cells #[.int .i64 0, .int .i64 0] 47)
  have r4 := (CI.new ((w.alloc (Obj.cells #[.slice none 0 0, .slice none 0 0, .slice none 0 0] 27)).alloc (Obj.cells #[.bool false, .slice none 0 0, .slice none 0 0] 30)) 0 0 47).alloc (Obj.cells #[.int .i64 0, .int .i64 0] 47)
  have r5 := CI.new (((w.alloc (Obj.cells #[.slice none 0 0, .slice none 0 0, .slice none 0 0] 27)).alloc (Obj.cells #[.bool false, .slice none 0 0, .slice none 0 0] 30)).alloc (Obj.cells #[.int .i64 0, .int .i64 0] 47)) 0 0 47
  rw [show (w.alloc (Obj.cells #[.slice none 0 0, .slice none 0 0, .slice none 0 0] 27)).heap.size = w.heap.size + 1 by simp] at r3
  rw [show ((w.alloc (Obj.cells #[.slice none 0 0, .slice none 0 0, .slice none 0 0] 27)).alloc (Obj.cells #[.bool false, .slice none 0 0, .slice none 0 0] 30)).heap.size = w.heap.size + 1 + 1 by simp] at r4
  rw [show (((w.alloc (Obj.cells #[.slice none 0 0, .slice none 0 0, .slice none 0 0] 27)).alloc (Obj.cells #[.bool false, .slice none 0 0, .slice none 0 0] 30)).alloc (Obj.cells #[.int .i64 0, .int .i64 0] 47)).heap.size = w.heap.size + 1 + 1 + 1 by simp] at r5
  have k0 := ((((Below.refl _ w).alloc (Nat.le_refl _) (Obj.cells #[.slice none 0 0, .slice none 0 0, .slice none 0 0] 27)).alloc (by simp) (Obj.cells #[.bool false, .slice none 0 0, .slice none 0 0] 30)).alloc (by simp; omega) (Obj.cells #[.int .i64 0, .int .i64 0] 47)).alloc (by simp; omega) (Obj.cells #[.int .i64 0, .int .i64 0] 47)
  have hs0 : w.heap.size + 4 ≤ ((((w.alloc (Obj.cells #[.slice none 0 0, .slice none 0 0, .slice none 0 0] 27)).alloc (Obj.cells #[.bool false, .slice none 0 0, .slice none 0 0] 30)).alloc (Obj.cells #[.int .i64 0, .int .i64 0] 47)).alloc (Obj.cells #[.int .i64 0, .int .i64 0] 47)).heap.size := by simp
  generalize ((((w.alloc (Obj.cells #[.slice none 0 0, .slice none 0 0, .slice none 0 0] 27)).alloc (Obj.cells #[.bool false, .slice none 0 0, .slice none 0 0] 30)).alloc (Obj.cells #[.int .i64 0, .int .i64 0] 47)).alloc (Obj.cells #[.int .i64 0, .int .i64 0] 47)) = u0 at r2 r3 r4 r5 k0 hs0 ⊢
  refine (open_c a len cap _).mono ?_
  rintro e u1 ⟨rfl, he⟩
  have hl := open_rdr a len cap u0 ((unhide HC).below k0)
  rw [← he] at hl
  clear he
  have HCO := hide (show ∀ x, a = some x → 0 < len → x.block < u0.heap.size from ((unhide HC).below k0).lt)
  have hrs : u0.heap.size < u1.heap.size := hl.1.lt
  have HR2 := hide (r2.kp hl.2 (by omega))
  have HR3 := hide (r3.kp hl.2 (by omega))
  have HR4 := hide (r4.kp hl.2 (by omega))
  have HR5 := hide (r5.kp hl.2 (by omega))
  have HB := hide (k0.trans (hl.2.below (by omega) k0.size))
  have HL := hide hl.1
  clear r2 r3 r4 r5 k0 hl
  obtain ⟨rb, hrb⟩ : ∃ x, x = u0.heap.size := ⟨_, rfl⟩
  rw [← hrb] at HL HCO hrs hs0 ⊢
  clear hrb
  go_wp2_with fail
  refine (decl_c rb a len cap _ (unhide HL)).mono ?_
  rintro e u2 ⟨a1, a2, a30, c1, c2, c30, vs, fs, rs0, rfl, s1, s2, s3, hz, lv, lf, lr, hfr, hl⟩
  have HD := hide (DeP.of s1 s2 s3 hfr)
  have HFR := hide hfr
  have HZ := hide hz
  have hz12 := hl.2.size
  have HR2 := hide ((unhide HR2).kp hl.2 (by omega))
  have HR3 := hide ((unhide HR3).kp hl.2 (by omega))
  have HR4 := hide ((unhide HR4).kp hl.2 (by omega))
  have HR5 := hide ((unhide HR5).kp hl.2 (by omega))
  have HB := hide ((unhide HB).trans (hl.2.below (by omega) (unhide HB).size))
  have HL := hide hl.1
  clear s1 s2 s3 hz hfr hl
  have HGD := hide (C3.new u2 (.slice a1 vs.length c1) (.slice a2 fs.length c2) (.slice a30 rs0.length c30) 27)
  have ka := (Below.refl _ u2).alloc (Nat.le_refl _) (Obj.cells #[.slice a1 vs.length c1, .slice a2 fs.length c2, .slice a30 rs0.length c30] 27)
  have HR2 := hide ((unhide HR2).alloc (Obj.cells #[.slice a1 vs.length c1, .slice a2 fs.length c2, .slice a30 rs0.length c30] 27))
  have HR3 := hide ((unhide HR3).alloc (Obj.cells #[.slice a1 vs.length c1, .slice a2 fs.length c2, .slice a30 rs0.length c30] 27))
  have HR4 := hide ((unhide HR4).alloc (Obj.cells #[.slice a1 vs.length c1, .slice a2 fs.length c2, .slice a30 rs0.length c30] 27))
  have HR5 := hide ((unhide HR5).alloc (Obj.cells #[.slice a1 vs.length c1, .slice a2 fs.length c2, .slice a30 rs0.length c30] 27))
  have HL := hide ((unhide HL).alloc (Obj.cells #[.slice a1 vs.length c1, .slice a2 fs.length c2, .slice a30 rs0.length c30] 27))
  have HD := hide ((unhide HD).call ka)
  have HB := hide ((unhide HB).trans (ka.mono (unhide HB).size))
  have hz23 : u2.heap.size + 1 ≤ (u2.alloc (Obj.cells #[.slice a1 vs.length c1, .slice a2 fs.length c2, .slice a30 rs0.length c30] 27)).heap.size := by simp
  clear ka
  go_upto_region 3 with fail
  generalize u2.alloc (Obj.cells #[.slice a1 vs.length c1, .slice a2 fs.length c2, .slice a30 rs0.length c30] 27) = u3 at HR2 HR3 HR4 HR5 HD HGD HB HL hz23 ⊢
  go_wp2_with fail
  refine (below_c rb a len cap 6 (by decide) _ (unhide HL)).mono ?_
  rintro e u4 ⟨x, rfl, x0, x1, x2, hl⟩
  have x3 : x ≤ 5 := by omega
  have hz34 := hl.2.size
  clear x1 x2
  have HR2 := hide ((unhide HR2).kp hl.2 (by omega))
  have HR3 := hide ((unhide HR3).kp hl.2 (by omega))
  have HR4 := hide ((unhide HR4).kp hl.2 (by omega))
  have HR5 := hide ((unhide HR5).kp hl.2 (by omega))
  have HD := hide ((unhide HD).kp hl.2 (by omega))
  have HGD := hide ((unhide HGD).kp hl.2 (by omega))
  have HB := hide ((unhide HB).trans (hl.2.below (by omega) (unhide HB).size))
  have HL := hide hl.1
  clear hl
  have g2 := (unhide HGD).2.2.1
  have gf2 := (unhide HGD).2.2.2 2
  have hgl : u2.heap.size < u4.heap.size := by omega
  have e2 := ((unhide HGD).alloc (Obj.cells #[.string { data := #[97] }, .int .i64 (1 + x)] 59)).2.2.1
  have ef2 := ((unhide HGD).alloc (Obj.cells #[.string { data := #[97] }, .int .i64 (1 + x)] 59)).2.2.2 2
  go_upto_region 4 with fail
  clear g2 gf2 e2 ef2
  have HR2 := hide (((unhide HR2).other (by omega) (c := u2.heap.size) (o := 2) (v := (.slice (some ⟨u4.heap.size, 0, none⟩) 1 1))).alloc (Obj.cells #[.string { data := #[97] }, .int .i64 (1 + x)] 59))
  have HR3 := hide (((unhide HR3).other (by omega) (c := u2.heap.size) (o := 2) (v := (.slice (some ⟨u4.heap.size, 0, none⟩) 1 1))).alloc (Obj.cells #[.string { data := #[97] }, .int .i64 (1 + x)] 59))
  have HR4 := hide (((unhide HR4).setF (c := u2.heap.size) (o := 2) (by omega) (.slice (some ⟨u4.heap.size, 0, none⟩) 1 1)).alloc (Obj.cells #[.string { data := #[97] }, .int .i64 (1 + x)] 59))
  have HR5 := hide (((unhide HR5).setF (c := u2.heap.size) (o := 2) (by omega) (.slice (some ⟨u4.heap.size, 0, none⟩) 1 1)).alloc (Obj.cells #[.string { data := #[97] }, .int .i64 (1 + x)] 59))
  have HGD := hide (((unhide HGD).set2 (.slice (some ⟨u4.heap.size, 0, none⟩) 1 1)).alloc (Obj.cells #[.string { data := #[97] }, .int .i64 (1 + x)] 59))
  have HB := hide (((unhide HB).setCell (p := ⟨u2.heap.size, 2, none⟩) (by show w.heap.size ≤ u2.heap.size; omega) (.slice (some ⟨u4.heap.size, 0, none⟩) 1 1)).alloc (by simp [World.setCell]; omega) (Obj.cells #[.string { data := #[97] }, .int .i64 (1 + x)] 59))
  have HL := hide ((rdr_set (unhide HL) (c := u2.heap.size) (o := 2) (by omega) (fun y e1 e2 => by have := (unhide HCO) y e1 e2; omega) (.slice (some ⟨u4.heap.size, 0, none⟩) 1 1)).alloc (Obj.cells #[.string { data := #[97] }, .int .i64 (1 + x)] 59))
  have hd2 := ((unhide HD).set (c := u2.heap.size) (o := 2) (.inr (Nat.le_refl _)) (.slice (some ⟨u4.heap.size, 0, none⟩) 1 1)).call ((Below.refl _ (u4.setCell ⟨u2.heap.size, 2, none⟩ (.slice (some ⟨u4.heap.size, 0, none⟩) 1 1))).alloc (Nat.le_refl _) (Obj.cells #[.string { data := #[97] }, .int .i64 (1 + x)] 59))
  have hsz : (u4.setCell ⟨u2.heap.size, 2, none⟩ (.slice (some ⟨u4.heap.size, 0, none⟩) 1 1)).heap.size = u4.heap.size := by simp [World.setCell]
  have har := one_arr (u4.setCell ⟨u2.heap.size, 2, none⟩ (.slice (some ⟨u4.heap.size, 0, none⟩) 1 1)) (1 + x)
  rw [hsz] at har
  have hz45 : u4.heap.size + 1 ≤ ((u4.setCell ⟨u2.heap.size, 2, none⟩ (.slice (some ⟨u4.heap.size, 0, none⟩) 1 1)).alloc (Obj.cells #[.string { data := #[97] }, .int .i64 (1 + x)] 59)).heap.size := by simp [hsz]
  have hdn := DeP.of (lo := u1.heap.size) hd2.1 hd2.2.1 har (fun y hy => by
    rcases hy with e | e | e
    · exact (unhide HFR) y (.inl e)
    · exact (unhide HFR) y (.inr (.inl e))
    · cases e; show u1.heap.size ≤ u4.heap.size; omega)
  have HD := hide hdn
  have HZ := hide (show ∀ y ∈ namesOf vs fs [(nmA, 1 + x)], y.size ≤ 1048576 from fun y hy => by
    have q := unhide HZ
    unfold namesOf at hy q
    simp only [List.mem_append, List.map_cons, List.map_nil, List.mem_singleton] at hy q
    rcases hy with (h1 | h1) | h1
    · exact q y (.inl (.inl h1))
    · exact q y (.inl (.inr h1))
    · subst h1; decide)
  clear hd2 har hdn HFR hsz
  generalize (u4.setCell ⟨u2.heap.size, 2, none⟩ (.slice (some ⟨u4.heap.size, 0, none⟩) 1 1)).alloc (Obj.cells #[.string { data := #[97] }, .int .i64 (1 + x)] 59) = u5 at HR2 HR3 HR4 HR5 HD HGD HB HL hz45 ⊢
  generalize hlt : u4.heap.size = lt at HD HGD hz34 hz45 hgl ⊢
  clear hlt
  have g0 := (unhide HGD).1
  have g1 := (unhide HGD).2.1
  have g2 := (unhide HGD).2.2.1
  go_wp2_with fail
  refine (env_c rb a len cap a1 a2 (some ⟨lt, 0, none⟩) vs.length fs.length 1 c1 c2 1 (by omega) (by omega) _ (unhide HL)).mono ?_
  rintro e u6 ⟨li0, oa0, ca0, ob, cb, xs0, ys, rfl, hre, hxl, hyl, hlen, hl⟩
  clear g0 g1 g2
  have HRA := hide (RowsT.of hre)
  have HXL := hide (And.intro hxl hyl)
  have hz56 := hl.2.size
  have HR2 := hide ((unhide HR2).kp hl.2 (by omega))
  have HR3 := hide ((unhide HR3).kp hl.2 (by omega))
  have HR4 := hide ((unhide HR4).kp hl.2 (by omega))
  have HR5 := hide ((unhide HR5).kp hl.2 (by omega))
  have HD := hide ((unhide HD).kp hl.2 (by omega))
  have HGD := hide ((unhide HGD).kp hl.2 (by omega))
  have HB := hide ((unhide HB).trans (hl.2.below (by omega) (unhide HB).size))
  have HL := hide hl.1
  clear hre hxl hyl hlen hl
  go_wp2_with fail
  refine (hurtEnv_c rb a len cap li0 oa0 ca0 ob cb xs0 ys u5.heap.size u6 (unhide HL) (unhide HRA).1 (by omega) (by omega) (fun x e1 e2 => by have := (unhide HCO) x e1 e2; omega) (by have := unhide HXL; omega)).mono ?_
  rintro e u7 ⟨li, oa, ca, xs, rfl, hre, hlx, hq, hmv, hin⟩
  have hbo := (unhide HRA).2.1
  have hs67 : u6.heap.size ≤ u7.heap.size := hq.2.2.2.2.1
  have HR2 := hide ((unhide HR2).hu hq (by omega) (fun x e => by have := hbo x e; omega))
  have HR3 := hide ((unhide HR3).hu hq (by omega) (fun x e => by have := hbo x e; omega))
  have HR4 := hide ((unhide HR4).hu hq (by omega) (fun x e => by have := hbo x e; omega))
  have HR5 := hide ((unhide HR5).hu hq (by omega) (fun x e => by have := hbo x e; omega))
  have HGD := hide ((unhide HGD).hu hq (by omega) (fun x e => by have := hbo x e; omega))
  have HD := hide ((unhide HD).hu hq (by omega) (fun x e => by have := hbo x e; omega))
  have HB := hide ((unhide HB).trans (hq.below (by omega) (unhide HB).size (fun x e => by have := hbo x e; omega)))
  have HL := hide hq.1
  have HRA := hide (RowsT.of hre)
  have HLX := hide (And.intro hlx (hin (unhide HXL).1.2))
  clear hre hlx hq hmv hin hbo
  have HGE := hide (C3.new u7 (.bool li) (.slice oa xs.length ca) (.slice ob ys.length cb) 30)
  have ka := (Below.refl _ u7).alloc (Nat.le_refl _) (Obj.cells #[.bool li, .slice oa xs.length ca, .slice ob ys.length cb] 30)
  have HR2 := hide ((unhide HR2).alloc (Obj.cells #[.bool li, .slice oa xs.length ca, .slice ob ys.length cb] 30))
  have HR3 := hide ((unhide HR3).alloc (Obj.cells #[.bool li, .slice oa xs.length ca, .slice ob ys.length cb] 30))
  have HR4 := hide ((unhide HR4).alloc (Obj.cells #[.bool li, .slice oa xs.length ca, .slice ob ys.length cb] 30))
  have HR5 := hide ((unhide HR5).alloc (Obj.cells #[.bool li, .slice oa xs.length ca, .slice ob ys.length cb] 30))
  have HGD := hide ((unhide HGD).alloc (Obj.cells #[.bool li, .slice oa xs.length ca, .slice ob ys.length cb] 30))
  have HL := hide ((unhide HL).alloc (Obj.cells #[.bool li, .slice oa xs.length ca, .slice ob ys.length cb] 30))
  have HD := hide ((unhide HD).call ka)
  have HRA := hide ((unhide HRA).call ka)
  have HB := hide ((unhide HB).trans (ka.mono (unhide HB).size))
  have hz78 : u7.heap.size + 1 ≤ (u7.alloc (Obj.cells #[.bool li, .slice oa xs.length ca, .slice ob ys.length cb] 30)).heap.size := by simp
  clear ka
  go_upto_region 5 with fail
  generalize u7.alloc (Obj.cells #[.bool li, .slice oa xs.length ca, .slice ob ys.length cb] 30) = u8 at HR2 HR3 HR4 HR5 HD HGD HGE HRA HB HL hz78 ⊢
  obtain ⟨wz, hwz⟩ : ∃ x, x = u8.drew := ⟨_, rfl⟩
  have HR2 := hide (show C3 wz w.heap.size _ _ _ by rw [hwz]; exact unhide HR2)
  have HR3 := hide (show C3 wz (w.heap.size + 1) _ _ _ by rw [hwz]; exact unhide HR3)
  have HR4 := hide (show CI wz (w.heap.size + 1 + 1) _ _ by rw [hwz]; exact unhide HR4)
  have HR5 := hide (show CI wz (w.heap.size + 1 + 1 + 1) _ _ by rw [hwz]; exact unhide HR5)
  have HGD := hide (show C3 wz u2.heap.size _ _ _ by rw [hwz]; exact unhide HGD)
  have HGE := hide (show C3 wz u7.heap.size _ _ _ by rw [hwz]; exact unhide HGE)
  have HD := hide (show DeP wz u1.heap.size u5.heap.size a1 a2 (some ⟨lt, 0, none⟩) vs fs [(nmA, 1 + x)] by rw [hwz]; exact (unhide HD).call (Below.refl _ _).drew)
  have HRA := hide (show RowsT wz u5.heap.size u7.heap.size oa ca ob cb xs ys by rw [hwz]; exact (unhide HRA).call (Below.refl _ _).drew)
  have HB := hide (show Below w.heap.size w wz by rw [hwz]; exact (unhide HB).drew)
  have HL := hide (show Rdr wz rb a len cap by rw [hwz]; exact unhide HL)
  have hzz : u8.heap.size ≤ wz.heap.size := by rw [hwz]; exact Nat.le_refl _
  refine wp_region_held_drew (S := S7 u2.heap.size u7.heap.size u7.heap.size (.slice a1 vs.length c1) (.slice a2 fs.length c2) (.slice (some ⟨lt, 0, none⟩) 1 1) (.bool li) (.slice oa xs.length ca) (.slice ob ys.length cb) (.bool li) (.slice oa xs.length ca) (.slice ob ys.length cb)) (by kernel_rfl) (by rw [← hwz]; exact S7.of (unhide HGD) (unhide HGE) (unhide HGE)) (fun hHeld => ?_)
  rw [← hwz] at hHeld ⊢
  clear hwz
  refine wpAnyH_take (i := 0) (oi := { dst := some 25, op := Op.load 27 (Operand.tmp 8), type := 27, pos := "l07_values.go:336", after := #[], guard := none }) (v := ?_) rfl (by kernel_rfl) (by kernel_rfl) (by kernel_rfl) (fun _ _ _ h => h) (Or.inl ⟨by rfl, ?_⟩) (by assumption) ?_
  rotate_left
  · (intro w9 hSw; (try dsimp only at hSw); go_simp; try with_reducible rfl)
  try simp only [Act.put, List.setIfInBounds_toArray, List.set_cons_zero, List.set_cons_succ]
  refine wpAnyH_take (i := 1) (oi := { dst := some 26, op := Op.load 30 (Operand.tmp 9), type := 30, pos := "l07_values.go:336", after := #[{ on := 12, ground := Ground.gcOnly Departure.lateStores }], guard := none }) (v := ?_) rfl (by kernel_rfl) (by kernel_rfl) (by kernel_rfl) (fun _ _ _ h => h) (Or.inl ⟨by rfl, ?_⟩) (by assumption) ?_
  rotate_left
  · (intro w9 hSw; (try dsimp only at hSw); go_simp; try with_reducible rfl)
  try simp only [Act.put, List.setIfInBounds_toArray, List.set_cons_zero, List.set_cons_succ]
  refine wpAnyH_take (i := 2) (oi := { dst := some 27, op := Op.move (Operand.tmp 7), type := 60, pos := "l07_values.go:336", after := #[], guard := none }) (v := ?_) rfl (by kernel_rfl) (by kernel_rfl) (by kernel_rfl) (fun _ _ _ h => h) (Or.inl ⟨by rfl, ?_⟩) (by assumption) ?_
  rotate_left
  · (intro w9 hSw; (try dsimp only at hSw); go_simp; try with_reducible rfl)
  try simp only [Act.put, List.setIfInBounds_toArray, List.set_cons_zero, List.set_cons_succ]
  refine wpAnyH_take (i := 3) (oi := { dst := some 28, op := Op.fieldAddr 27 (Operand.tmp 8) 2, type := 0, pos := "l07_values.go:336", after := #[], guard := none }) (v := ?_) rfl (by kernel_rfl) (by kernel_rfl) (by kernel_rfl) (fun _ _ _ h => h) (Or.inl ⟨by rfl, ?_⟩) (by assumption) ?_
  rotate_left
  · (intro w9 hSw; (try dsimp only at hSw); go_simp; try with_reducible rfl)
  try simp only [Act.put, List.setIfInBounds_toArray, List.set_cons_zero, List.set_cons_succ]
  refine wpAnyH_take (i := 4) (oi := { dst := some 29, op := Op.load 25 (Operand.tmp 28), type := 25, pos := "l07_values.go:336", after := #[{ on := 3, ground := Ground.data }], guard := none }) (v := ?_) rfl (by kernel_rfl) (by kernel_rfl) (by kernel_rfl) (fun _ _ _ h => h) (Or.inl ⟨by rfl, ?_⟩) (by assumption) ?_
  rotate_left
  · (intro w9 hSw; (try dsimp only at hSw); go_simp; try with_reducible rfl)
  try simp only [Act.put, List.setIfInBounds_toArray, List.set_cons_zero, List.set_cons_succ]
  refine wpAnyH_take (i := 5) (oi := { dst := some 30, op := Op.call { callee := Callee.builtin Builtin.len, args := #[Operand.tmp 29], argTypes := #[25] }, type := 3, pos := "l07_values.go:336", after := #[{ on := 4, ground := Ground.data }], guard := none }) (v := ?_) rfl (by kernel_rfl) (by kernel_rfl) (by kernel_rfl) (fun _ _ _ h => h) (Or.inl ⟨by rfl, ?_⟩) (by assumption) ?_
  rotate_left
  · (intro w9 hSw; (try dsimp only at hSw); go_simp; try with_reducible rfl)
  try simp only [Act.put, List.setIfInBounds_toArray, List.set_cons_zero, List.set_cons_succ]
  refine wpAnyH_take (i := 6) (oi := { dst := some 31, op := Op.binOp BinOp.sub 2 (Operand.tmp 30) (Operand.const (Value.int IntKind.i64 1)) 2, type := 2, pos := "l07_values.go:336", after := #[{ on := 5, ground := Ground.data }], guard := none }) (v := ?_) rfl (by kernel_rfl) (by kernel_rfl) (by kernel_rfl) (fun _ _ _ h => h) (Or.inl ⟨by rfl, ?_⟩) (by assumption) ?_
  rotate_left
  · (intro w9 hSw; (try dsimp only at hSw); go_simp; try with_reducible rfl)
  try simp only [Act.put, List.setIfInBounds_toArray, List.set_cons_zero, List.set_cons_succ]
  refine wpAnyH_take (i := 8) (oi := { dst := some 33, op := Op.move (Operand.tmp 7), type := 60, pos := "l07_values.go:336", after := #[], guard := none }) (v := ?_) rfl (by kernel_rfl) (by kernel_rfl) (by kernel_rfl) (fun _ _ _ h => h) (Or.inl ⟨by rfl, ?_⟩) (by assumption) ?_
  rotate_left
  · (intro w9 hSw; (try dsimp only at hSw); go_simp; try with_reducible rfl)
  try simp only [Act.put, List.setIfInBounds_toArray, List.set_cons_zero, List.set_cons_succ]
  refine wpAnyH_take (i := 10) (oi := { dst := some 35, op := Op.move (Operand.tmp 7), type := 60, pos := "l07_values.go:336", after := #[], guard := none }) (v := ?_) rfl (by kernel_rfl) (by kernel_rfl) (by kernel_rfl) (fun _ _ _ h => h) (Or.inl ⟨by rfl, ?_⟩) (by assumption) ?_
  rotate_left
  · (intro w9 hSw; (try dsimp only at hSw); go_simp; try with_reducible rfl)
  try simp only [Act.put, List.setIfInBounds_toArray, List.set_cons_zero, List.set_cons_succ]
  refine wpAnyH_ready (rs := [7]) (by kernel_rfl) (by simp) ?_
  refine AllReadyH.cons (i := 7) (o := { dst := some 32, op := Op.call { callee := Callee.value (Operand.func 50), args := #[Operand.tmp 27, Operand.const (Value.int IntKind.i64 0), Operand.tmp 31], argTypes := #[60, 2, 2] }, type := 2, pos := "l07_values.go:336", after := #[{ on := 2, ground := Ground.data }, { on := 6, ground := Ground.data }], guard := none }) rfl (fun K hK => ?_) AllReadyH.nil
  go_simp
  refine (off_c rb a len cap _ _ (by unfold In; decide) (by unfold In; decide) (by decide) _ (unhide HL)).mono ?_
  rintro e v1 ⟨p, rfl, ip, hl⟩
  have HIP := hide ip
  clear ip
  have hzs0 := hl.2.size
  have HR2 := hide ((unhide HR2).kp hl.2 (by omega))
  have HR3 := hide ((unhide HR3).kp hl.2 (by omega))
  have HR4 := hide ((unhide HR4).kp hl.2 (by omega))
  have HR5 := hide ((unhide HR5).kp hl.2 (by omega))
  have HD := hide ((unhide HD).kp hl.2 (by omega))
  have HGD := hide ((unhide HGD).kp hl.2 (by omega))
  have HGE := hide ((unhide HGE).kp hl.2 (by omega))
  have HRA := hide ((unhide HRA).kp hl.2 (by omega))
  have HB := hide ((unhide HB).trans (hl.2.below (by omega) (unhide HB).size))
  have HL := hide hl.1
  clear hl
  refine hK.out _ _ (S7.of (unhide HGD) (unhide HGE) (unhide HGE)) (fun hHeld => ?_)
  clear hK K
  try simp only [Act.put, List.setIfInBounds_toArray, List.set_cons_zero, List.set_cons_succ]
  refine wpAnyH_ready (rs := [9]) (by kernel_rfl) (by simp) ?_
  refine AllReadyH.cons (i := 9) (o := { dst := some 34, op := Op.call { callee := Callee.value (Operand.func 57), args := #[Operand.tmp 33], argTypes := #[60] }, type := 47, pos := "l07_values.go:336", after := #[{ on := 8, ground := Ground.data }, { on := 7, ground := Ground.chain }], guard := none }) rfl (fun K hK => ?_) AllReadyH.nil
  go_simp
  refine (small_c rb a len cap _ (unhide HL)).mono ?_
  rintro e v2 ⟨pl, ph, rfl, il, ig, hl⟩
  have HIG1 := hide (And.intro il ig)
  clear il ig
  have hzs1 := hl.2.size
  have HR2 := hide ((unhide HR2).kp hl.2 (by omega))
  have HR3 := hide ((unhide HR3).kp hl.2 (by omega))
  have HR4 := hide ((unhide HR4).kp hl.2 (by omega))
  have HR5 := hide ((unhide HR5).kp hl.2 (by omega))
  have HD := hide ((unhide HD).kp hl.2 (by omega))
  have HGD := hide ((unhide HGD).kp hl.2 (by omega))
  have HGE := hide ((unhide HGE).kp hl.2 (by omega))
  have HRA := hide ((unhide HRA).kp hl.2 (by omega))
  have HB := hide ((unhide HB).trans (hl.2.below (by omega) (unhide HB).size))
  have HL := hide hl.1
  clear hl
  refine hK.out _ _ (S7.of (unhide HGD) (unhide HGE) (unhide HGE)) (fun hHeld => ?_)
  clear hK K
  try simp only [Act.put, List.setIfInBounds_toArray, List.set_cons_zero, List.set_cons_succ]
  refine wpAnyH_ready (rs := [11]) (by kernel_rfl) (by simp) ?_
  refine AllReadyH.cons (i := 11) (o := { dst := some 36, op := Op.call { callee := Callee.value (Operand.func 51), args := #[Operand.tmp 35], argTypes := #[60] }, type := 47, pos := "l07_values.go:336", after := #[{ on := 10, ground := Ground.data }, { on := 9, ground := Ground.chain }], guard := none }) rfl (fun K hK => ?_) AllReadyH.nil
  go_simp
  refine (iv_c rb a len cap _ (unhide HL)).mono ?_
  rintro e v3 ⟨l, g, rfl, il, ig, hl⟩
  have HIG := hide (And.intro il ig)
  clear il ig
  have hzs2 := hl.2.size
  have HR2 := hide ((unhide HR2).kp hl.2 (by omega))
  have HR3 := hide ((unhide HR3).kp hl.2 (by omega))
  have HR4 := hide ((unhide HR4).kp hl.2 (by omega))
  have HR5 := hide ((unhide HR5).kp hl.2 (by omega))
  have HD := hide ((unhide HD).kp hl.2 (by omega))
  have HGD := hide ((unhide HGD).kp hl.2 (by omega))
  have HGE := hide ((unhide HGE).kp hl.2 (by omega))
  have HRA := hide ((unhide HRA).kp hl.2 (by omega))
  have HB := hide ((unhide HB).trans (hl.2.below (by omega) (unhide HB).size))
  have HL := hide hl.1
  clear hl
  refine hK.out _ _ (S7.of (unhide HGD) (unhide HGE) (unhide HGE)) (fun hHeld => ?_)
  clear hK K
  try simp only [Act.put, List.setIfInBounds_toArray, List.set_cons_zero, List.set_cons_succ]
  have r0 := (unhide HR2).1
  have r1 := (unhide HR2).2.1
  have r2 := (unhide HR2).2.2.1
  have s0 := (unhide HR3).1
  have s1 := (unhide HR3).2.1
  have s2 := (unhide HR3).2.2.1
  have t0 := (unhide HR4).1
  have t1 := (unhide HR4).2.1
  have y0 := (unhide HR5).1
  have y1 := (unhide HR5).2.1
  have rf0 := (unhide HR2).2.2.2 0
  have rf1 := (unhide HR2).2.2.2 1
  have rf2 := (unhide HR2).2.2.2 2
  have sf0 := (unhide HR3).2.2.2 0
  have sf1 := (unhide HR3).2.2.2 1
  have sf2 := (unhide HR3).2.2.2 2
  have tf0 := (unhide HR4).2.2.1 0
  have tf1 := (unhide HR4).2.2.1 1
  have yf0 := (unhide HR5).2.2.1 0
  have yf1 := (unhide HR5).2.2.1 1
  have nw1 : w.heap.size ≠ w.heap.size + 1 := by omega
  have nw2 : w.heap.size ≠ w.heap.size + 1 + 1 := by omega
  have nw3 : w.heap.size + 1 ≠ w.heap.size + 1 + 1 := by omega
  have nw4 : w.heap.size ≠ w.heap.size + 1 + 1 + 1 := by omega
  have nw5 : w.heap.size + 1 ≠ w.heap.size + 1 + 1 + 1 := by omega
  have nw6 : w.heap.size + 1 + 1 ≠ w.heap.size + 1 + 1 + 1 := by omega
  refine wpAnyH_ready (rs := [12]) (by kernel_rfl) (by simp) ?_
  refine AllReadyH.cons (i := 12) (o := { dst := none, op := Op.store 27 (Operand.tmp 2) (Operand.tmp 25), type := 0, pos := "l07_values.go:336", after := #[{ on := 0, ground := Ground.data }, { on := 11, ground := Ground.chain }, { on := 0, ground := Ground.phase }, { on := 1, ground := Ground.textOnly Departure.lateStores }, { on := 2, ground := Ground.textOnly Departure.lateStores }, { on := 3, ground := Ground.textOnly Departure.lateStores }, { on := 4, ground := Ground.textOnly Departure.lateStores }, { on := 5, ground := Ground.textOnly Departure.lateStoresUnsure }, { on := 6, ground := Ground.textOnly Departure.lateStores }, { on := 7, ground := Ground.textOnly Departure.lateStoresUnsure }, { on := 8, ground := Ground.textOnly Departure.lateStores }, { on := 9, ground := Ground.textOnly Departure.lateStoresUnsure }, { on := 10, ground := Ground.textOnly Departure.lateStores }, { on := 11, ground := Ground.textOnly Departure.lateStoresUnsure }], guard := none }) rfl (fun K hK => ?_) AllReadyH.nil
  go_simp
  refine hK.out _ _ (S7.set (S7.set (S7.set (hHeld) (by omega) (by omega) (by omega) _) (by omega) (by omega) (by omega) _) (by omega) (by omega) (by omega) _) (fun hHeld => ?_)
  clear hK K
  try simp only [Act.put, List.setIfInBounds_toArray, List.set_cons_zero, List.set_cons_succ]
  refine wpAnyH_ready (rs := [13]) (by kernel_rfl) (by simp) ?_
  refine AllReadyH.cons (i := 13) (o := { dst := none, op := Op.store 30 (Operand.tmp 3) (Operand.tmp 26), type := 0, pos := "l07_values.go:336", after := #[{ on := 1, ground := Ground.data }, { on := 12, ground := Ground.chain }, { on := 0, ground := Ground.phase }, { on := 1, ground := Ground.phase }, { on := 2, ground := Ground.textOnly Departure.lateStores }, { on := 3, ground := Ground.textOnly Departure.lateStores }, { on := 4, ground := Ground.textOnly Departure.lateStores }, { on := 5, ground := Ground.textOnly Departure.lateStoresUnsure }, { on := 6, ground := Ground.textOnly Departure.lateStores }, { on := 7, ground := Ground.textOnly Departure.lateStoresUnsure }, { on := 8, ground := Ground.textOnly Departure.lateStores }, { on := 9, ground := Ground.textOnly Departure.lateStoresUnsure }, { on := 10, ground := Ground.textOnly Departure.lateStores }, { on := 11, ground := Ground.textOnly Departure.lateStoresUnsure }, { on := 12, ground := Ground.phase }], guard := none }) rfl (fun K hK => ?_) AllReadyH.nil
  go_simp
  refine hK.out _ _ (S7.set (S7.set (S7.set (hHeld) (by omega) (by omega) (by omega) _) (by omega) (by omega) (by omega) _) (by omega) (by omega) (by omega) _) (fun hHeld => ?_)
  clear hK K
  try simp only [Act.put, List.setIfInBounds_toArray, List.set_cons_zero, List.set_cons_succ]
  refine wpAnyH_take (i := 14) (oi := { dst := some 4, op := Op.assign (Operand.tmp 32), type := 2, pos := "l07_values.go:336", after := #[{ on := 7, ground := Ground.data }, { on := 13, ground := Ground.chain }, { on := 0, ground := Ground.phase }, { on := 1, ground := Ground.phase }, { on := 2, ground := Ground.phase }, { on := 3, ground := Ground.phase }, { on := 4, ground := Ground.phase }, { on := 5, ground := Ground.phase }, { on := 6, ground := Ground.phase }, { on := 7, ground := Ground.phase }, { on := 8, ground := Ground.textOnly Departure.lateStores }, { on := 9, ground := Ground.textOnly Departure.lateStoresUnsure }, { on := 10, ground := Ground.textOnly Departure.lateStores }, { on := 11, ground := Ground.textOnly Departure.lateStoresUnsure }, { on := 12, ground := Ground.phase }, { on := 13, ground := Ground.phase }], guard := none }) (v := ?_) rfl (by kernel_rfl) (by kernel_rfl) (by kernel_rfl) (fun _ _ _ h => h) (Or.inl ⟨by rfl, ?_⟩) (by assumption) ?_
  rotate_left
  · (intro w9 hSw; (try dsimp only at hSw); go_simp; try with_reducible rfl)
  try simp only [Act.put, List.setIfInBounds_toArray, List.set_cons_zero, List.set_cons_succ]
  refine wpAnyH_ready (rs := [15]) (by kernel_rfl) (by simp) ?_
  refine AllReadyH.cons (i := 15) (o := { dst := none, op := Op.store 47 (Operand.tmp 5) (Operand.tmp 34), type := 0, pos := "l07_values.go:336", after := #[{ on := 9, ground := Ground.data }, { on := 14, ground := Ground.chain }, { on := 0, ground := Ground.phase }, { on := 1, ground := Ground.phase }, { on := 2, ground := Ground.phase }, { on := 3, ground := Ground.phase }, { on := 4, ground := Ground.phase }, { on := 5, ground := Ground.phase }, { on := 6, ground := Ground.phase }, { on := 7, ground := Ground.phase }, { on := 8, ground := Ground.phase }, { on := 9, ground := Ground.phase }, { on := 10, ground := Ground.textOnly Departure.lateStores }, { on := 11, ground := Ground.textOnly Departure.lateStoresUnsure }, { on := 12, ground := Ground.phase }, { on := 13, ground := Ground.phase }, { on := 14, ground := Ground.phase }], guard := none }) rfl (fun K hK => ?_) AllReadyH.nil
  go_simp
  refine hK.out _ _ (S7.set (S7.set (hHeld) (by omega) (by omega) (by omega) _) (by omega) (by omega) (by omega) _) (fun hHeld => ?_)
  clear hK K
  try simp only [Act.put, List.setIfInBounds_toArray, List.set_cons_zero, List.set_cons_succ]
  refine wpAnyH_ready (rs := [16]) (by kernel_rfl) (by simp) ?_
  refine AllReadyH.cons (i := 16) (o := { dst := none, op := Op.store 47 (Operand.tmp 6) (Operand.tmp 36), type := 0, pos := "l07_values.go:336", after := #[{ on := 11, ground := Ground.data }, { on := 15, ground := Ground.chain }, { on := 0, ground := Ground.phase }, { on := 1, ground := Ground.phase }, { on := 2, ground := Ground.phase }, { on := 3, ground := Ground.phase }, { on := 4, ground := Ground.phase }, { on := 5, ground := Ground.phase }, { on := 6, ground := Ground.phase }, { on := 7, ground := Ground.phase }, { on := 8, ground := Ground.phase }, { on := 9, ground := Ground.phase }, { on := 10, ground := Ground.phase }, { on := 11, ground := Ground.phase }, { on := 12, ground := Ground.phase }, { on := 13, ground := Ground.phase }, { on := 14, ground := Ground.phase }, { on := 15, ground := Ground.phase }], guard := none }) rfl (fun K hK => ?_) AllReadyH.nil
  go_simp
  refine hK.out _ _ (S7.set (S7.set (hHeld) (by omega) (by omega) (by omega) _) (by omega) (by omega) (by omega) _) (fun hHeld => ?_)
  clear hK K
  try simp only [Act.put, List.setIfInBounds_toArray, List.set_cons_zero, List.set_cons_succ]
  refine wpAnyH_done (by kernel_rfl) ?_ _
  clear hHeld
  go_wp2
  have bD := unhide HD
  have bA := unhide HRA
  have lX := unhide HLX
  have lY := unhide HXL
  have hh : ∀ q, u1.heap.size ≤ q → (W10 v3 w.heap.size (w.heap.size + 1) (w.heap.size + 1 + 1) (w.heap.size + 1 + 1 + 1) (.slice a1 vs.length c1) (.slice a2 fs.length c2) (.slice (some ⟨lt, 0, none⟩) 1 1) (.bool li) (.slice oa xs.length ca) (.slice ob ys.length cb) (.int .i64 pl) (.int .i64 ph) (.int .i64 l) (.int .i64 g)).heap[q]? = v3.heap[q]? := fun q hq => w10_heap _ _ _ _ _ _ _ _ _ _ _ _ _ _ _ _ (by omega) (by omega) (by omega) (by omega)
  have bD2 := bD.at' (fun q h1 _ => hh q h1) (by simp [W10, W8, World.setCell])
  have bA2 := bA.at' (fun q h1 _ => hh q (by omega)) (by simp [W10, W8, World.setCell])
  exact bodyPost_ret (v := .tuple #[.agg #[.slice a1 vs.length c1, .slice a2 fs.length c2, .slice (some ⟨lt, 0, none⟩) 1 1], .agg #[.bool li, .slice oa xs.length ca, .slice ob ys.length cb], .int .i64 p, .agg #[.int .i64 pl, .int .i64 ph], .agg #[.int .i64 l, .int .i64 g]]) (by simp [results, Tryd.results22, go_sem, r0, r1, r2, s0, s1, s2, t0, t1, y0, y1]) rfl ⟨a1, a2, lt, c1, c2, vs, fs, 1 + x, li, oa, ca, ob, cb, xs, ys, p, pl, ph, l, g, rfl, bD2.1, bD2.2.1, bD2.2.2.1, unhide HZ, bA2.1.ivs (by omega), ⟨lX.2, lY.2.2⟩, ⟨unhide HIP, unhide HIG1, unhide HIG⟩, below_w10 (unhide HB) (Nat.le_refl _) (Nat.le_succ _) (by omega) (by omega)⟩
end Go.Proofs.YthpnbmdmkmkicaaDoor
