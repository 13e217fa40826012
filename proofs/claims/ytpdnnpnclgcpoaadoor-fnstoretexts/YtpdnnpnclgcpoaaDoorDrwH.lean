/- What is drawn of two bounds, from a code. -/
import Derived.Test.YtpdnnpnclgcpoaaDoorNaZ
import Derived.Test.YtpdnnpnclgcpoaaDoorDrwG
namespace Go.Proofs.YtpdnnpnclgcpoaaDoor
open Go.RowKit Go.Iv
set_option linter.unusedSimpArgs false
set_option linter.unusedVariables false

theorem rdr_below {u v : World} {b len cap : Nat} {a : Option Addr} (h : Rdr u b a len cap) (hb : Below u.heap.size u v) : Rdr v b a len cap := by
 obtain ⟨⟨p, hp, hh⟩, hc, hn⟩ := h
 exact ⟨⟨p, hp, (hb.block b (Array.getElem?_eq_some_iff.1 hh).1).trans hh⟩, hc.below hb, hn⟩
theorem rdr_set {u : World} {b len cap c o : Nat} {a : Option Addr} (h : Rdr u b a len cap) (hc : c ≠ b) (hcode : ∀ x, a = some x → 0 < len → x.block ≠ c) (x : Value) : Rdr (u.setCell ⟨c, o, none⟩ x) b a len cap := h.kept (kp_set _ _ _ _) hc hcode
abbrev W9 (v : World) (p q r : Nat) (x0 x1 x2 x3 x4 x5 x6 x7 x8 : Value) : World := ((((((((v.setCell ⟨p, 0, none⟩ x0).setCell ⟨p, 1, none⟩ x1).setCell ⟨p, 2, none⟩ x2).setCell ⟨q, 0, none⟩ x3).setCell ⟨q, 1, none⟩ x4).setCell ⟨q, 2, none⟩ x5).setCell ⟨r, 0, none⟩ x6).setCell ⟨r, 1, none⟩ x7).setCell ⟨r, 2, none⟩ x8
theorem DeP.w9 {v : World} {lo hi p q r : Nat} {a1 a2 a3 : Option Addr} {vs fs : List ByteArray} {rs : List (ByteArray × Int)} {x0 x1 x2 x3 x4 x5 x6 x7 x8 : Value} (h : DeP v lo hi a1 a2 a3 vs fs rs) (hp : p < lo) (hq : q < lo) (hr : r < lo) : DeP (W9 v p q r x0 x1 x2 x3 x4 x5 x6 x7 x8) lo hi a1 a2 a3 vs fs rs :=
 ((((((((h.set (.inl hp) _).set (.inl hp) _).set (.inl hp) _).set (.inl hq) _).set (.inl hq) _).set (.inl hq) _).set (.inl hr) _).set (.inl hr) _).set (.inl hr) _
theorem RowsE.w9 {v : World} {B p q r ca cb : Nat} {oa ob : Option Addr} {xs ys : List (Int × Int)} {x0 x1 x2 x3 x4 x5 x6 x7 x8 : Value} (h : RowsE v B oa ca ob cb xs ys) (hp : p < B) (hq : q < B) (hr : r < B) : RowsE (W9 v p q r x0 x1 x2 x3 x4 x5 x6 x7 x8) B oa ca ob cb xs ys :=
 ((((((((h.set hp).set hp).set hp).set hq).set hq).set hq).set hr).set hr).set hr
theorem below_w9 {u v : World} {B p q r : Nat} {x0 x1 x2 x3 x4 x5 x6 x7 x8 : Value} (h : Below B u v) (hp : B ≤ p) (hq : B ≤ q) (hr : B ≤ r) : Below B u (W9 v p q r x0 x1 x2 x3 x4 x5 x6 x7 x8) :=
 ((((((((h.setCell (show B ≤ (⟨p, 0, none⟩ : Addr).block from hp) _).setCell (show B ≤ (⟨p, 1, none⟩ : Addr).block from hp) _).setCell (show B ≤ (⟨p, 2, none⟩ : Addr).block from hp) _).setCell (show B ≤ (⟨q, 0, none⟩ : Addr).block from hq) _).setCell (show B ≤ (⟨q, 1, none⟩ : Addr).block from hq) _).setCell (show B ≤ (⟨q, 2, none⟩ : Addr).block from hq) _).setCell (show B ≤ (⟨r, 0, none⟩ : Addr).block from hr) _).setCell (show B ≤ (⟨r, 1, none⟩ : Addr).block from hr) _).setCell (show B ≤ (⟨r, 2, none⟩ : Addr).block from hr) _
theorem jsV_len (li lj : Bool) (xs ys xs2 ys2 : List (Int × Int)) (h : xs.length ≤ 1000 ∧ ys.length ≤ 1000 ∧ xs2.length ≤ 1000 ∧ ys2.length ≤ 1000) : (jsV li lj xs ys xs2 ys2).1.length ≤ 1000 ∧ (jsV li lj xs ys xs2 ys2).2.length ≤ 1000 := by
 cases li <;> cases lj <;> simp [jsV] <;> omega
theorem InL.jm {Z T : List (Int × Int)} (hz : InL Z) (ht : InL T) : InL (List.zipWith jm Z T) := fun p hp => by
 obtain ⟨k, h1, rfl⟩ := List.getElem_of_mem hp
 rw [List.getElem_zipWith]
 simp at h1
 have a := hz _ (List.getElem_mem (show k < Z.length by omega))
 have b := ht _ (List.getElem_mem (show k < T.length by omega))
 unfold In at a b
 show In (mn _ _) ∧ In (mx _ _)
 unfold In mn mx
 constructor <;> split <;> omega
theorem jsV_in (li lj : Bool) (xs ys xs2 ys2 : List (Int × Int)) (h : (xs.length ≤ 1000 ∧ InL xs) ∧ ys.length ≤ 1000 ∧ InL ys) (h2 : (xs2.length ≤ 1000 ∧ InL xs2) ∧ ys2.length ≤ 1000 ∧ InL ys2) : ((jsV li lj xs ys xs2 ys2).1.length ≤ 1000 ∧ InL (jsV li lj xs ys xs2 ys2).1) ∧ (jsV li lj xs ys xs2 ys2).2.length ≤ 1000 ∧ InL (jsV li lj xs ys xs2 ys2).2 := by
 have q := jsV_len li lj xs ys xs2 ys2 ⟨h.1.1, h.2.1, h2.1.1, h2.2.1⟩
 refine ⟨⟨q.1, ?_⟩, q.2, ?_⟩
 ·cases li <;> cases lj <;> simp only [jsV]
  ·exact h2.1.2
  ·exact h2.1.2
  ·exact h.1.2
  ·exact h.1.2.jm h2.1.2
 ·cases li <;> cases lj <;> simp only [jsV]
  ·exact h2.2.2
  ·exact h2.2.2
  ·exact h.2.2
  ·exact h.2.2.jm h2.2.2
/-- No row lies below. -/
def DeF (n : Nat) (a1 a2 a3 oa ob oc od : Option Addr) (l1 l2 l3 : Nat) : Prop :=
 (∀ x, a1 = some x → 0 < l1 → n ≤ x.block) ∧ (∀ x, a2 = some x → 0 < l2 → n ≤ x.block) ∧ (∀ x, a3 = some x → 0 < l3 → n ≤ x.block) ∧ (∀ x, oa = some x → n ≤ x.block) ∧ (∀ x, ob = some x → n ≤ x.block) ∧ (∀ x, oc = some x → n ≤ x.block) ∧ ∀ x, od = some x → n ≤ x.block
theorem rows_far {u : World} {B ca cb n : Nat} {oa ob : Option Addr} {xs ys : List (Int × Int)} (h : RowsE u B oa ca ob cb xs ys) (hn : n ≤ B) : (∀ x, oa = some x → n ≤ x.block) ∧ ∀ x, ob = some x → n ≤ x.block :=
 ⟨fun x e => by subst e; have := (h.1.lt x.block (by simp [Value.ownBlock])).1; omega, fun x e => by subst e; have := (h.2.1.lt x.block (by simp [Value.ownBlock])).1; omega⟩
/-- A declaration and two bounds. -/
def DeR (w : World) (e : Ending) (w' : World) : Prop := ∃ (a1 a2 a3 : Option Addr) (c1 c2 c3 : Nat) (vs fs : List ByteArray) (rs : List (ByteArray × Int)) (li : Bool) (oa : Option Addr) (ca : Nat) (ob : Option Addr) (cb : Nat) (xs ys : List (Int × Int)) (lj : Bool) (oc : Option Addr) (cc : Nat) (od : Option Addr) (cd : Nat) (xs2 ys2 : List (Int × Int)),
 e = .returned (.tuple #[.agg #[.slice a1 vs.length c1, .slice a2 fs.length c2, .slice a3 rs.length c3], .agg #[.bool li, .slice oa xs.length ca, .slice ob ys.length cb], .agg #[.bool lj, .slice oc xs2.length cc, .slice od ys2.length cd]]) ∧ Strs w' a1 vs ∧ Strs w' a2 fs ∧ Arrs w' a3 rs ∧ (∀ x ∈ namesOf vs fs rs, x.size ≤ 1048576) ∧ (Ivs w' oa xs ∧ Ivs w' ob ys) ∧ (Ivs w' oc xs2 ∧ Ivs w' od ys2) ∧ (InL xs ∧ InL ys ∧ InL xs2 ∧ InL ys2) ∧ DeF w.heap.size a1 a2 a3 oa ob oc od vs.length fs.length rs.length ∧ Below w.heap.size w w'
set_option maxRecDepth 20000 in
set_option maxHeartbeats 32000000 in
theorem DrawEnvLeq_c (a : Option Addr) (len cap : Nat) (w : World) (h : Code w a len) : Calls Tryd.prog 23 #[.slice a len cap] w (DeR w) := by
 have HC := hide h
 clear h
 go_enter Tryd.func23, Tryd.ntmps23
 go_wp2_with fail
 have r2 := ((C3.new w (.slice none 0 0) (.slice none 0 0) (.slice none 0 0) 27).alloc (Obj.cells #[.bool false, .slice none 0 0, .slice none 0 0] 43)).alloc (Obj.cells #[.bool false, .slice none 0 0, .slice none 0 0] 43)
 have r3 := (C3.new (w.alloc (Obj.cells #[.slice none 0 0, .slice none 0 0, .slice none 0 0] 27)) (.bool false) (.slice none 0 0) (.slice none 0 0) 43).alloc (Obj.cells #[.bool false, .slice none 0 0, .slice none 0 0] 43)
 have r4 := C3.new ((w.alloc (Obj.cells #[.slice none 0 0, .slice none 0 0, .slice none 0 0] 27)).alloc (Obj.cells #[.bool false, .slice none 0 0, .slice none 0 0] 43)) (.bool false) (.slice none 0 0) (.slice none 0 0) 43
 rw [show (w.alloc (Obj.cells #[.slice none 0 0, .slice none 0 0, .slice none 0 0] 27)).heap.size = w.heap.size + 1 by simp] at r3
 rw [show ((w.alloc (Obj.cells #[.slice none 0 0, .slice none 0 0, .slice none 0 0] 27)).alloc (Obj.cells #[.bool false, .slice none 0 0, .slice none 0 0] 43)).heap.size = w.heap.size + 1 + 1 by simp] at r4
 have k0 := (((Below.refl _ w).alloc (Nat.le_refl _) (Obj.cells #[.slice none 0 0, .slice none 0 0, .slice none 0 0] 27)).alloc (by simp) (Obj.cells #[.bool false, .slice none 0 0, .slice none 0 0] 43)).alloc (by simp; omega) (Obj.cells #[.bool false, .slice none 0 0, .slice none 0 0] 43)
 have hs0 : (((w.alloc (Obj.cells #[.slice none 0 0, .slice none 0 0, .slice none 0 0] 27)).alloc (Obj.cells #[.bool false, .slice none 0 0, .slice none 0 0] 43)).alloc (Obj.cells #[.bool false, .slice none 0 0, .slice none 0 0] 43)).heap.size = w.heap.size + 3 := by simp
 generalize ((w.alloc (Obj.cells #[.slice none 0 0, .slice none 0 0, .slice none 0 0] 27)).alloc (Obj.cells #[.bool false, .slice none 0 0, .slice none 0 0] 43)).alloc (Obj.cells #[.bool false, .slice none 0 0, .slice none 0 0] 43) = u0 at r2 r3 r4 k0 hs0 ⊢
 have hs0a := Nat.le_of_eq hs0
 have hs0b := Nat.le_of_eq hs0.symm
 clear hs0
 refine (open_c a len cap _).mono ?_
 rintro e u1 ⟨rfl, he⟩
 have hl := open_rdr a len cap u0 ((unhide HC).below k0)
 rw [← he] at hl
 have HCO := hide (show ∀ x, a = some x → 0 < len → x.block < u0.heap.size from ((unhide HC).below k0).lt)
 obtain ⟨rb, hrb⟩ : ∃ x, x = u0.heap.size := ⟨_, rfl⟩
 rw [← hrb] at hl HCO ⊢
 have hra := Nat.le_of_eq hrb
 have hrc := Nat.le_of_eq hrb.symm
 clear hrb
 have hrs : rb < u1.heap.size := hl.1.lt
 have hz01 := hl.2.size
 have HR2 := hide (r2.kp hl.2 (by omega))
 have HR3 := hide (r3.kp hl.2 (by omega))
 have HR4 := hide (r4.kp hl.2 (by omega))
 have HB := hide (k0.trans (hl.2.below (by omega) k0.size))
 have HL := hide hl.1
 clear r2 r3 r4 k0 hl he
 go_wp2_with fail
 refine (decl_c rb a len cap _ (unhide HL)).mono ?_
 rintro e u2 ⟨a1, a2, a3, c1, c2, c3, vs, fs, rs, rfl, s1, s2, s3, hz, lv, lf, lr, hfr, hl⟩
 have HD := hide (DeP.of s1 s2 s3 hfr)
 have HZ := hide hz
 have hz12 := hl.2.size
 have HR2 := hide ((unhide HR2).kp hl.2 (by omega))
 have HR3 := hide ((unhide HR3).kp hl.2 (by omega))
 have HR4 := hide ((unhide HR4).kp hl.2 (by omega))
 have HB := hide ((unhide HB).trans (hl.2.below (by omega) (unhide HB).size))
 have HL := hide hl.1
 clear s1 s2 s3 hz hfr hl
 have HGD := hide (C3.new u2 (.slice a1 vs.length c1) (.slice a2 fs.length c2) (.slice a3 rs.length c3) 27)
 have ka := (Below.refl _ u2).alloc (Nat.le_refl _) (Obj.cells #[.slice a1 vs.length c1, .slice a2 fs.length c2, .slice a3 rs.length c3] 27)
 have HR2 := hide ((unhide HR2).alloc (Obj.cells #[.slice a1 vs.length c1, .slice a2 fs.length c2, .slice a3 rs.length c3] 27))
 have HR3 := hide ((unhide HR3).alloc (Obj.cells #[.slice a1 vs.length c1, .slice a2 fs.length c2, .slice a3 rs.length c3] 27))
 have HR4 := hide ((unhide HR4).alloc (Obj.cells #[.slice a1 vs.length c1, .slice a2 fs.length c2, .slice a3 rs.length c3] 27))
 have HD := hide ((unhide HD).call ka)
 have HB := hide ((unhide HB).trans (ka.mono (unhide HB).size))
 have HL := hide ((unhide HL).alloc (Obj.cells #[.slice a1 vs.length c1, .slice a2 fs.length c2, .slice a3 rs.length c3] 27))
 have hz23 : (u2.alloc (Obj.cells #[.slice a1 vs.length c1, .slice a2 fs.length c2, .slice a3 rs.length c3] 27)).heap.size = u2.heap.size + 1 := by simp
 have hz23a := Nat.le_of_eq hz23
 have hz23b := Nat.le_of_eq hz23.symm
 clear hz23
 go_upto_region 3 with fail
 generalize u2.alloc (Obj.cells #[.slice a1 vs.length c1, .slice a2 fs.length c2, .slice a3 rs.length c3] 27) = u3 at HR2 HR3 HR4 HD HGD HB HL hz23a hz23b ⊢
 clear ka
 have g0 := (unhide HGD).1
 have g1 := (unhide HGD).2.1
 have g2 := (unhide HGD).2.2.1
 go_wp2_with fail
 refine (env_c rb a len cap a1 a2 a3 vs.length fs.length rs.length c1 c2 c3 (by omega) (by omega) _ (unhide HL)).mono ?_
 rintro e u4 ⟨li, oa, ca, ob, cb, xs, ys, rfl, hre, hxl, hyl, hlen, hl⟩
 clear g0 g1 g2
 have HRA := hide (RowsT.of hre)
 have HXL := hide (And.intro hxl hyl)
 have HLA := hide hlen
 have hz34 := hl.2.size
 have HR2 := hide ((unhide HR2).kp hl.2 (by omega))
 have HR3 := hide ((unhide HR3).kp hl.2 (by omega))
 have HR4 := hide ((unhide HR4).kp hl.2 (by omega))
 have HD := hide ((unhide HD).kp hl.2 (by omega))
 have HGD := hide ((unhide HGD).kp hl.2 (by omega))
 have HB := hide ((unhide HB).trans (hl.2.below (by omega) (unhide HB).size))
 have HL := hide hl.1
 clear hre hxl hyl hlen hl
 have HGA := hide (C3.new u4 (.bool li) (.slice oa xs.length ca) (.slice ob ys.length cb) 43)
 have ka := (Below.refl _ u4).alloc (Nat.le_refl _) (Obj.cells #[.bool li, .slice oa xs.length ca, .slice ob ys.length cb] 43)
 have HR2 := hide ((unhide HR2).alloc (Obj.cells #[.bool li, .slice oa xs.length ca, .slice ob ys.length cb] 43))
 have HR3 := hide ((unhide HR3).alloc (Obj.cells #[.bool li, .slice oa xs.length ca, .slice ob ys.length cb] 43))
 have HR4 := hide ((unhide HR4).alloc (Obj.cells #[.bool li, .slice oa xs.length ca, .slice ob ys.length cb] 43))
 have HGD := hide ((unhide HGD).alloc (Obj.cells #[.bool li, .slice oa xs.length ca, .slice ob ys.length cb] 43))
 have HD := hide ((unhide HD).call ka)
 have HRA := hide ((unhide HRA).call ka)
 have HB := hide ((unhide HB).trans (ka.mono (unhide HB).size))
 have HL := hide ((unhide HL).alloc (Obj.cells #[.bool li, .slice oa xs.length ca, .slice ob ys.length cb] 43))
 have hz45 : (u4.alloc (Obj.cells #[.bool li, .slice oa xs.length ca, .slice ob ys.length cb] 43)).heap.size = u4.heap.size + 1 := by simp
 have hz45a := Nat.le_of_eq hz45
 have hz45b := Nat.le_of_eq hz45.symm
 clear hz45
 go_upto_region 4 with fail
 generalize u4.alloc (Obj.cells #[.bool li, .slice oa xs.length ca, .slice ob ys.length cb] 43) = u5 at HR2 HR3 HR4 HD HGD HGA HRA HB HL hz45a hz45b ⊢
 clear ka
 have g0 := (unhide HGD).1
 have g1 := (unhide HGD).2.1
 have g2 := (unhide HGD).2.2.1
 go_wp2_with fail
 refine (env_c rb a len cap a1 a2 a3 vs.length fs.length rs.length c1 c2 c3 (by omega) (by omega) _ (unhide HL)).mono ?_
 rintro e u6 ⟨lj, oc, cc, od, cd, xs2, ys2, rfl, hre, hxl, hyl, hlen, hl⟩
 clear g0 g1 g2
 have HRB := hide (RowsT.of hre)
 have HYL := hide (And.intro hxl hyl)
 have HLB := hide hlen
 have hz56 := hl.2.size
 have HR2 := hide ((unhide HR2).kp hl.2 (by omega))
 have HR3 := hide ((unhide HR3).kp hl.2 (by omega))
 have HR4 := hide ((unhide HR4).kp hl.2 (by omega))
 have HD := hide ((unhide HD).kp hl.2 (by omega))
 have HGD := hide ((unhide HGD).kp hl.2 (by omega))
 have HGA := hide ((unhide HGA).kp hl.2 (by omega))
 have HRA := hide ((unhide HRA).kp hl.2 (by omega))
 have HB := hide ((unhide HB).trans (hl.2.below (by omega) (unhide HB).size))
 have HL := hide hl.1
 clear hre hxl hyl hlen hl
 have HGB := hide (C3.new u6 (.bool lj) (.slice oc xs2.length cc) (.slice od ys2.length cd) 43)
 have ka := (Below.refl _ u6).alloc (Nat.le_refl _) (Obj.cells #[.bool lj, .slice oc xs2.length cc, .slice od ys2.length cd] 43)
 have HR2 := hide ((unhide HR2).alloc (Obj.cells #[.bool lj, .slice oc xs2.length cc, .slice od ys2.length cd] 43))
 have HR3 := hide ((unhide HR3).alloc (Obj.cells #[.bool lj, .slice oc xs2.length cc, .slice od ys2.length cd] 43))
 have HR4 := hide ((unhide HR4).alloc (Obj.cells #[.bool lj, .slice oc xs2.length cc, .slice od ys2.length cd] 43))
 have HGD := hide ((unhide HGD).alloc (Obj.cells #[.bool lj, .slice oc xs2.length cc, .slice od ys2.length cd] 43))
 have HGA := hide ((unhide HGA).alloc (Obj.cells #[.bool lj, .slice oc xs2.length cc, .slice od ys2.length cd] 43))
 have HD := hide ((unhide HD).call ka)
 have HRA := hide ((unhide HRA).call ka)
 have HRB := hide ((unhide HRB).call ka)
 have HB := hide ((unhide HB).trans (ka.mono (unhide HB).size))
 have HL := hide ((unhide HL).alloc (Obj.cells #[.bool lj, .slice oc xs2.length cc, .slice od ys2.length cd] 43))
 have hz67 : (u6.alloc (Obj.cells #[.bool lj, .slice oc xs2.length cc, .slice od ys2.length cd] 43)).heap.size = u6.heap.size + 1 := by simp
 have hz67a := Nat.le_of_eq hz67
 have hz67b := Nat.le_of_eq hz67.symm
 clear hz67
 go_upto_region 5 with fail
 generalize u6.alloc (Obj.cells #[.bool lj, .slice oc xs2.length cc, .slice od ys2.length cd] 43) = u7 at HR2 HR3 HR4 HD HGD HGA HGB HRA HRB HB HL hz67a hz67b ⊢
 clear ka
 go_wp2_with fail
 refine (once_c _ _ _ _ _ (by decide) (by decide) _ (unhide HL)).mono ?_
 rintro e u8 ⟨q, rfl, hl⟩
 have hz78 := hl.2.size
 have HR2 := hide ((unhide HR2).kp hl.2 (by omega))
 have HR3 := hide ((unhide HR3).kp hl.2 (by omega))
 have HR4 := hide ((unhide HR4).kp hl.2 (by omega))
 have HD := hide ((unhide HD).kp hl.2 (by omega))
 have HGD := hide ((unhide HGD).kp hl.2 (by omega))
 have HGA := hide ((unhide HGA).kp hl.2 (by omega))
 have HGB := hide ((unhide HGB).kp hl.2 (by omega))
 have HRA := hide ((unhide HRA).kp hl.2 (by omega))
 have HRB := hide ((unhide HRB).kp hl.2 (by omega))
 have HB := hide ((unhide HB).trans (hl.2.below (by omega) (unhide HB).size))
 have HL := hide hl.1
 clear hl
 cases q
 ·go_upto_region 7 with fail
  generalize u8 = uz at HR2 HR3 HR4 HGD HGA HGB HD HRA HRB HB HL hz78 ⊢
  obtain ⟨B2, hB2⟩ : ∃ x, x = u5.heap.size := ⟨_, rfl⟩
  obtain ⟨T2, hT2⟩ : ∃ x, x = u6.heap.size := ⟨_, rfl⟩
  have HRB := hide (show RowsT uz B2 T2 oc cc od cd xs2 ys2 by rw [hB2, hT2]; exact unhide HRB)
  have hBT : u4.heap.size < B2 ∧ B2 ≤ T2 ∧ T2 ≤ u6.heap.size ∧ (u6.heap.size < B2 ∨ T2 ≤ u6.heap.size) := by omega
  clear hB2 hT2
  generalize lj = lq at HGB HLB ⊢
  generalize oc = oq at HGB HRB ⊢
  generalize cc = cq at HGB HRB ⊢
  generalize od = op at HGB HRB ⊢
  generalize cd = cp at HGB HRB ⊢
  generalize xs2 = xq at HGB HRB HYL HLB ⊢
  generalize ys2 = yq at HGB HRB HYL HLB ⊢
  obtain ⟨wz, hwz⟩ : ∃ x, x = uz.drew := ⟨_, rfl⟩
  have HR2 := hide (show C3 wz w.heap.size (.slice none 0 0) (.slice none 0 0) (.slice none 0 0) by rw [hwz]; exact unhide HR2)
  have HR3 := hide (show C3 wz (w.heap.size + 1) (.bool false) (.slice none 0 0) (.slice none 0 0) by rw [hwz]; exact unhide HR3)
  have HR4 := hide (show C3 wz (w.heap.size + 1 + 1) (.bool false) (.slice none 0 0) (.slice none 0 0) by rw [hwz]; exact unhide HR4)
  have HGD := hide (show C3 wz u2.heap.size (.slice a1 vs.length c1) (.slice a2 fs.length c2) (.slice a3 rs.length c3) by rw [hwz]; exact unhide HGD)
  have HGA := hide (show C3 wz u4.heap.size (.bool li) (.slice oa xs.length ca) (.slice ob ys.length cb) by rw [hwz]; exact unhide HGA)
  have HGB := hide (show C3 wz u6.heap.size (.bool lq) (.slice oq xq.length cq) (.slice op yq.length cp) by rw [hwz]; exact unhide HGB)
  have HD := hide (show DeP wz u1.heap.size u2.heap.size a1 a2 a3 vs fs rs by rw [hwz]; exact (unhide HD).call (Below.refl _ _).drew)
  have HRA := hide (show RowsT wz u3.heap.size u4.heap.size oa ca ob cb xs ys by rw [hwz]; exact (unhide HRA).call (Below.refl _ _).drew)
  have HRB := hide (show RowsT wz B2 T2 oq cq op cp xq yq by rw [hwz]; exact (unhide HRB).call (Below.refl _ _).drew)
  have HB := hide (show Below w.heap.size w wz by rw [hwz]; exact (unhide HB).drew)
  have HL := hide (show Rdr wz rb a len cap by rw [hwz]; exact unhide HL)
  have hzz : uz.heap.size ≤ wz.heap.size := by rw [hwz]; exact Nat.le_refl _
  have hzy : wz.heap.size ≤ uz.heap.size := by rw [hwz]; exact Nat.le_refl _
  refine wp_region_held_drew (S := S7 u2.heap.size u4.heap.size u6.heap.size (.slice a1 vs.length c1) (.slice a2 fs.length c2) (.slice a3 rs.length c3) (.bool li) (.slice oa xs.length ca) (.slice ob ys.length cb) (.bool lq) (.slice oq xq.length cq) (.slice op yq.length cp)) (by kernel_rfl) (by rw [← hwz]; exact S7.of (unhide HGD) (unhide HGA) (unhide HGB)) (fun hHeld => ?_)
  rw [← hwz] at hHeld ⊢
  clear hwz
  refine tk 0 (v := ?_) rfl ?_ ?_
  rotate_left
  ·(intro w9 hSw; (try dsimp only at hSw); go_simp; try with_reducible rfl)
  try simp only [Act.put, sa, sb, sc]
  refine tk 1 (v := ?_) rfl ?_ ?_
  rotate_left
  ·(intro w9 hSw; (try dsimp only at hSw); go_simp; try with_reducible rfl)
  try simp only [Act.put, sa, sb, sc]
  refine tk 2 (v := ?_) rfl ?_ ?_
  rotate_left
  ·(intro w9 hSw; (try dsimp only at hSw); go_simp; try with_reducible rfl)
  try simp only [Act.put, sa, sb, sc]
  refine tk 4 (v := ?_) rfl ?_ ?_
  rotate_left
  ·(intro w9 hSw; (try dsimp only at hSw); go_simp; try with_reducible rfl)
  try simp only [Act.put, sa, sb, sc]
  refine tk 5 (v := ?_) rfl ?_ ?_
  rotate_left
  ·(intro w9 hSw; (try dsimp only at hSw); go_simp; try with_reducible rfl)
  try simp only [Act.put, sa, sb, sc]
  refine wpAnyH_ready (rs := [3]) (by kernel_rfl) (by simp) ?_
  refine AllReadyH.cons (i := 3) rfl (fun K hK => ?_) AllReadyH.nil
  go_simp
  refine (hurtEnv_c rb a len cap li oa ca ob cb xs ys u3.heap.size wz (unhide HL) (unhide HRA).1 (by omega) (by omega) (fun x e1 e2 => by have := (unhide HCO) x e1 e2; omega) (by have := unhide HXL; omega)).mono ?_
  rintro e v1 ⟨li2, oa2, ca2, xs3, rfl, hre, hlx, hq, hmv, hin⟩
  have hbo := (unhide HRA).2.1
  have hbq := (unhide HRA).2.2.1
  have hs1 : wz.heap.size ≤ v1.heap.size := hq.2.2.2.2.1
  have HR2 := hide ((unhide HR2).hu hq (by omega) (fun x e => by have := hbo x e; omega))
  have HR3 := hide ((unhide HR3).hu hq (by omega) (fun x e => by have := hbo x e; omega))
  have HR4 := hide ((unhide HR4).hu hq (by omega) (fun x e => by have := hbo x e; omega))
  have HGD := hide ((unhide HGD).hu hq (by omega) (fun x e => by have := hbo x e; omega))
  have HGA := hide ((unhide HGA).hu hq (by omega) (fun x e => by have := hbo x e; omega))
  have HGB := hide ((unhide HGB).hu hq (by omega) (fun x e => by have := hbo x e; omega))
  have HD := hide ((unhide HD).hu hq (by omega) (fun x e => by have := hbo x e; omega))
  have HRB := hide (show RowsT v1 B2 T2 oq cq op cp xq yq from ⟨(unhide HRB).1.hu hq (by omega) (fun x y e1 e2 => by have := hbo y e2; have := (unhide HRB).2.1 x e1; omega) (fun x y e1 e2 => by have := hbo y e2; have := (unhide HRB).2.2.1 x e1; omega), (unhide HRB).2.1, (unhide HRB).2.2.1, Nat.le_trans (unhide HRB).2.2.2 hs1⟩)
  have HB := hide ((unhide HB).trans (hq.below (by omega) (unhide HB).size (fun x e => by have := hbo x e; omega)))
  have HL := hide hq.1
  have hma : ∀ x, oa2 = some x → (u3.heap.size ≤ x.block ∧ x.block < u4.heap.size) ∨ wz.heap.size ≤ x.block := fun x e => by
   rcases hmv x e with ⟨y, hy, e2⟩ | e2
   ·have := hbo y hy; exact .inl (by omega)
   ·exact .inr e2
  have HMA := hide hma
  have HBQ := hide hbq
  have HRA2 := hide hre
  have HLX := hide (And.intro hlx (hin (unhide HXL).1.2))
  clear hre hlx hq hmv hin hbo hbq hma
  refine hK.out _ _ (S7.of (unhide HGD) (unhide HGA) (unhide HGB)) (fun hHeld => ?_)
  clear hK K
  try simp only [Act.put, sa, sb, sc]
  refine wpAnyH_ready (rs := [6]) (by kernel_rfl) (by simp) ?_
  refine AllReadyH.cons (i := 6) rfl (fun K hK => ?_) AllReadyH.nil
  go_simp
  refine (hurtEnv_c rb a len cap lq oq cq op cp xq yq B2 v1 (unhide HL) (unhide HRB).1 (by omega) (by have := (unhide HRB).2.2.2; omega) (fun x e1 e2 => by have := (unhide HCO) x e1 e2; omega) (by have := unhide HYL; omega)).mono ?_
  rintro e v2 ⟨lj2, oc2, cc2, xs4, rfl, hre, hlx, hq, hmv, hin⟩
  have hbo := (unhide HRB).2.1
  have hs2 : v1.heap.size ≤ v2.heap.size := hq.2.2.2.2.1
  have HR2 := hide ((unhide HR2).hu hq (by omega) (fun x e => by have := hbo x e; omega))
  have HR3 := hide ((unhide HR3).hu hq (by omega) (fun x e => by have := hbo x e; omega))
  have HR4 := hide ((unhide HR4).hu hq (by omega) (fun x e => by have := hbo x e; omega))
  have HGD := hide ((unhide HGD).hu hq (by omega) (fun x e => by have := hbo x e; omega))
  have HGA := hide ((unhide HGA).hu hq (by omega) (fun x e => by have := hbo x e; omega))
  have HGB := hide ((unhide HGB).hu hq (by omega) (fun x e => by have := hbo x e; omega))
  have HD := hide ((unhide HD).hu hq (by omega) (fun x e => by have := hbo x e; omega))
  have HRA2 := hide ((unhide HRA2).hu hq (by omega) (fun x y e1 e2 => by have := hbo y e2; have := (unhide HMA) x e1; have := (unhide HRB).2.2.2; omega) (fun x y e1 e2 => by have := hbo y e2; have := (unhide HBQ) x e1; omega))
  have HB := hide ((unhide HB).trans (hq.below (by omega) (unhide HB).size (fun x e => by have := hbo x e; omega)))
  have HRB2 := hide hre
  have HLY := hide (And.intro hlx (hin (unhide HYL).1.2))
  clear hre hlx hq hmv hin hbo HRB
  refine hK.out _ _ (S7.of (unhide HGD) (unhide HGA) (unhide HGB)) (fun hHeld => ?_)
  clear hK K
  try simp only [Act.put, sa, sb, sc]
  have r0 := (unhide HR2).1
  have r1 := (unhide HR2).2.1
  have r2 := (unhide HR2).2.2.1
  have rf0 := (unhide HR2).2.2.2 0
  have rf1 := (unhide HR2).2.2.2 1
  have rf2 := (unhide HR2).2.2.2 2
  have s0 := (unhide HR3).1
  have s1 := (unhide HR3).2.1
  have s2 := (unhide HR3).2.2.1
  have sf0 := (unhide HR3).2.2.2 0
  have sf1 := (unhide HR3).2.2.2 1
  have sf2 := (unhide HR3).2.2.2 2
  have t0 := (unhide HR4).1
  have t1 := (unhide HR4).2.1
  have t2 := (unhide HR4).2.2.1
  have tf0 := (unhide HR4).2.2.2 0
  have tf1 := (unhide HR4).2.2.2 1
  have tf2 := (unhide HR4).2.2.2 2
  have nw1 : w.heap.size ≠ w.heap.size + 1 := by omega
  have nw2 : w.heap.size ≠ w.heap.size + 1 + 1 := by omega
  have nw3 : w.heap.size + 1 ≠ w.heap.size + 1 + 1 := by omega
  refine wpAnyH_ready (rs := [7]) (by kernel_rfl) (by simp) ?_
  refine AllReadyH.cons (i := 7) rfl (fun K hK => ?_) AllReadyH.nil
  go_simp
  refine hK.out _ _ (S7.set (S7.set (S7.set hHeld (by omega) (by omega) (by omega) _) (by omega) (by omega) (by omega) _) (by omega) (by omega) (by omega) _) (fun hHeld => ?_)
  clear hK K
  try simp only [Act.put, sa, sb, sc]
  refine wpAnyH_ready (rs := [8]) (by kernel_rfl) (by simp) ?_
  refine AllReadyH.cons (i := 8) rfl (fun K hK => ?_) AllReadyH.nil
  go_simp
  refine hK.out _ _ (S7.set (S7.set (S7.set hHeld (by omega) (by omega) (by omega) _) (by omega) (by omega) (by omega) _) (by omega) (by omega) (by omega) _) (fun hHeld => ?_)
  clear hK K
  try simp only [Act.put, sa, sb, sc]
  refine wpAnyH_ready (rs := [9]) (by kernel_rfl) (by simp) ?_
  refine AllReadyH.cons (i := 9) rfl (fun K hK => ?_) AllReadyH.nil
  go_simp
  refine hK.out _ _ (S7.set (S7.set (S7.set hHeld (by omega) (by omega) (by omega) _) (by omega) (by omega) (by omega) _) (by omega) (by omega) (by omega) _) (fun hHeld => ?_)
  clear hK K
  try simp only [Act.put, sa, sb, sc]
  refine wpAnyH_done (by kernel_rfl) ?_ _
  clear hHeld
  go_wp2
  have lA := unhide HLX
  have lB := unhide HXL
  have lC := unhide HLY
  have lD := unhide HYL
  have bD := unhide HD
  have bA := unhide HRA2
  have bB := unhide HRB2
  have bW := unhide HB
  refine bodyPost_ret (v := .tuple #[.agg #[.slice a1 vs.length c1, .slice a2 fs.length c2, .slice a3 rs.length c3], .agg #[.bool li2, .slice oa2 xs3.length ca2, .slice ob ys.length cb], .agg #[.bool lj2, .slice oc2 xs4.length cc2, .slice op yq.length cp]]) (by simp [results, Tryd.results23, go_sem, r0, r1, r2, s0, s1, s2, t0, t1, t2]) rfl ⟨a1, a2, a3, c1, c2, c3, vs, fs, rs, li2, oa2, ca2, ob, cb, xs3, ys, lj2, oc2, cc2, op, cp, xs4, yq, rfl, (DeP.w9 bD (by omega) (by omega) (by omega)).1, (DeP.w9 bD (by omega) (by omega) (by omega)).2.1, (DeP.w9 bD (by omega) (by omega) (by omega)).2.2.1, unhide HZ, ?_, ?_, ⟨(unhide HLX).2, (unhide HXL).2.2, (unhide HLY).2, (unhide HYL).2.2⟩, ⟨fun x e h => by have := (bD.2.2.2.1 x e h).1; omega, fun x e h => by have := (bD.2.2.2.2.1 x e h).1; omega, fun x e h => by have := (bD.2.2.2.2.2.1 x e h).1; omega, (rows_far bA (by omega)).1, (rows_far bA (by omega)).2, (rows_far bB (by omega)).1, (rows_far bB (by omega)).2⟩, ?_⟩
  ·exact RowsE.ivs (RowsE.w9 bA (by omega) (by omega) (by omega)) (by omega)
  ·exact RowsE.ivs (RowsE.w9 bB (by omega) (by omega) (by omega)) (by omega)
  ·exact below_w9 bW (Nat.le_refl _) (Nat.le_succ _) (by omega)
 ·have g0 := (unhide HGA).1
  have g1 := (unhide HGA).2.1
  have g2 := (unhide HGA).2.2.1
  have g3 := (unhide HGB).1
  have g4 := (unhide HGB).2.1
  have g5 := (unhide HGB).2.2.1
  have g6 := (unhide HGB).2.2.2 0
  have g7 := (unhide HGB).2.2.2 1
  have g8 := (unhide HGB).2.2.2 2
  go_wp2_with fail
  refine (l6Join_c li oa ob ca cb xs ys lj oc od cc cd xs2 ys2 _ ((unhide HRA).1.ivs (by have := unhide HXL; omega)).1 ((unhide HRA).1.ivs (by have := unhide HXL; omega)).2 ((unhide HRB).1.ivs (by have := unhide HYL; omega)).1 ((unhide HRB).1.ivs (by have := unhide HYL; omega)).2 (by have := unhide HXL; have := unhide HYL; omega) (fun e1 e2 => by have := (unhide HLA) e1; have := (unhide HLB) e2; omega)).mono ?_
  rintro e u9 ⟨oq, cq, op, cp, rfl, hre, kb⟩
  have hz89 := kb.size
  have hjl := jsV_in li lj xs ys xs2 ys2 (unhide HXL) (unhide HYL)
  clear g0 g1 g2 g3 g4 g5 g6 g7 g8
  have HR2 := hide ((unhide HR2).call kb)
  have HR3 := hide ((unhide HR3).call kb)
  have HR4 := hide ((unhide HR4).call kb)
  have HD := hide ((unhide HD).call kb)
  have HGD := hide ((unhide HGD).call kb)
  have HGA := hide ((unhide HGA).call kb)
  have HGB := hide ((unhide HGB).call kb)
  have HRA := hide ((unhide HRA).call kb)
  have HRB := hide (RowsT.of hre)
  have HB := hide ((unhide HB).trans (kb.mono (unhide HB).size))
  have HL := hide (rdr_below (unhide HL) kb)
  clear hre kb
  generalize (jsV li lj xs ys xs2 ys2).1 = xq at HRB hjl ⊢
  generalize (jsV li lj xs ys xs2 ys2).2 = yq at HRB hjl ⊢
  generalize (li || lj) = lq
  have HYL := hide hjl
  have g3 := (unhide HGB).1
  have g4 := (unhide HGB).2.1
  have g5 := (unhide HGB).2.2.1
  have g6 := (unhide HGB).2.2.2 0
  have g7 := (unhide HGB).2.2.2 1
  have g8 := (unhide HGB).2.2.2 2
  go_upto_region 7 with fail
  clear g3 g4 g5 g6 g7 g8 hjl
  have HGB := hide ((((unhide HGB).set0 (.bool lq)).set1 (.slice oq xq.length cq)).set2 (.slice op yq.length cp))
  have HR2 := hide ((((unhide HR2).other (c := u6.heap.size) (o := 0) (v := .bool lq) (by omega)).other (c := u6.heap.size) (o := 1) (v := .slice oq xq.length cq) (by omega)).other (c := u6.heap.size) (o := 2) (v := .slice op yq.length cp) (by omega))
  have HR3 := hide ((((unhide HR3).other (c := u6.heap.size) (o := 0) (v := .bool lq) (by omega)).other (c := u6.heap.size) (o := 1) (v := .slice oq xq.length cq) (by omega)).other (c := u6.heap.size) (o := 2) (v := .slice op yq.length cp) (by omega))
  have HR4 := hide ((((unhide HR4).other (c := u6.heap.size) (o := 0) (v := .bool lq) (by omega)).other (c := u6.heap.size) (o := 1) (v := .slice oq xq.length cq) (by omega)).other (c := u6.heap.size) (o := 2) (v := .slice op yq.length cp) (by omega))
  have HGD := hide ((((unhide HGD).other (c := u6.heap.size) (o := 0) (v := .bool lq) (by omega)).other (c := u6.heap.size) (o := 1) (v := .slice oq xq.length cq) (by omega)).other (c := u6.heap.size) (o := 2) (v := .slice op yq.length cp) (by omega))
  have HGA := hide ((((unhide HGA).other (c := u6.heap.size) (o := 0) (v := .bool lq) (by omega)).other (c := u6.heap.size) (o := 1) (v := .slice oq xq.length cq) (by omega)).other (c := u6.heap.size) (o := 2) (v := .slice op yq.length cp) (by omega))
  have HD := hide ((((unhide HD).set (c := u6.heap.size) (o := 0) (.inr (by omega)) (.bool lq)).set (c := u6.heap.size) (o := 1) (.inr (by omega)) (.slice oq xq.length cq)).set (c := u6.heap.size) (o := 2) (.inr (by omega)) (.slice op yq.length cp))
  have HRA := hide ((((unhide HRA).set (c := u6.heap.size) (o := 0) (.inr (by omega)) (.bool lq)).set (c := u6.heap.size) (o := 1) (.inr (by omega)) (.slice oq xq.length cq)).set (c := u6.heap.size) (o := 2) (.inr (by omega)) (.slice op yq.length cp))
  have HRB := hide ((((unhide HRB).set (c := u6.heap.size) (o := 0) (.inl (by omega)) (.bool lq)).set (c := u6.heap.size) (o := 1) (.inl (by omega)) (.slice oq xq.length cq)).set (c := u6.heap.size) (o := 2) (.inl (by omega)) (.slice op yq.length cp))
  have HB := hide ((((unhide HB).setCell (show w.heap.size ≤ (⟨u6.heap.size, 0, none⟩ : Addr).block by show w.heap.size ≤ u6.heap.size; omega) (.bool lq)).setCell (show w.heap.size ≤ (⟨u6.heap.size, 1, none⟩ : Addr).block by show w.heap.size ≤ u6.heap.size; omega) (.slice oq xq.length cq)).setCell (show w.heap.size ≤ (⟨u6.heap.size, 2, none⟩ : Addr).block by show w.heap.size ≤ u6.heap.size; omega) (.slice op yq.length cp))
  have HL := hide (rdr_set (rdr_set (rdr_set (unhide HL) (c := u6.heap.size) (o := 0) (by omega) (fun x e1 e2 => by have := (unhide HCO) x e1 e2; omega) (.bool lq)) (c := u6.heap.size) (o := 1) (by omega) (fun x e1 e2 => by have := (unhide HCO) x e1 e2; omega) (.slice oq xq.length cq)) (c := u6.heap.size) (o := 2) (by omega) (fun x e1 e2 => by have := (unhide HCO) x e1 e2; omega) (.slice op yq.length cp))
  have hz9 : (((u9.setCell ⟨u6.heap.size, 0, none⟩ (.bool lq)).setCell ⟨u6.heap.size, 1, none⟩ (.slice oq xq.length cq)).setCell ⟨u6.heap.size, 2, none⟩ (.slice op yq.length cp)).heap.size = u9.heap.size := by rw [size_setCell, size_setCell, size_setCell]
  generalize ((u9.setCell ⟨u6.heap.size, 0, none⟩ (.bool lq)).setCell ⟨u6.heap.size, 1, none⟩ (.slice oq xq.length cq)).setCell ⟨u6.heap.size, 2, none⟩ (.slice op yq.length cp) = uz at HR2 HR3 HR4 HGD HGA HGB HD HRA HRB HB HL hz9 ⊢
  obtain ⟨B2, hB2⟩ : ∃ x, x = u8.heap.size := ⟨_, rfl⟩
  obtain ⟨T2, hT2⟩ : ∃ x, x = u9.heap.size := ⟨_, rfl⟩
  have HRB := hide (show RowsT uz B2 T2 oq cq op cp xq yq by rw [hB2, hT2]; exact unhide HRB)
  have hBT : u4.heap.size < B2 ∧ B2 ≤ T2 ∧ T2 ≤ uz.heap.size ∧ (u6.heap.size < B2 ∨ T2 ≤ u6.heap.size) := by omega
  clear hB2 hT2 hz9
  obtain ⟨wz, hwz⟩ : ∃ x, x = uz.drew := ⟨_, rfl⟩
  have HR2 := hide (show C3 wz w.heap.size (.slice none 0 0) (.slice none 0 0) (.slice none 0 0) by rw [hwz]; exact unhide HR2)
  have HR3 := hide (show C3 wz (w.heap.size + 1) (.bool false) (.slice none 0 0) (.slice none 0 0) by rw [hwz]; exact unhide HR3)
  have HR4 := hide (show C3 wz (w.heap.size + 1 + 1) (.bool false) (.slice none 0 0) (.slice none 0 0) by rw [hwz]; exact unhide HR4)
  have HGD := hide (show C3 wz u2.heap.size (.slice a1 vs.length c1) (.slice a2 fs.length c2) (.slice a3 rs.length c3) by rw [hwz]; exact unhide HGD)
  have HGA := hide (show C3 wz u4.heap.size (.bool li) (.slice oa xs.length ca) (.slice ob ys.length cb) by rw [hwz]; exact unhide HGA)
  have HGB := hide (show C3 wz u6.heap.size (.bool lq) (.slice oq xq.length cq) (.slice op yq.length cp) by rw [hwz]; exact unhide HGB)
  have HD := hide (show DeP wz u1.heap.size u2.heap.size a1 a2 a3 vs fs rs by rw [hwz]; exact (unhide HD).call (Below.refl _ _).drew)
  have HRA := hide (show RowsT wz u3.heap.size u4.heap.size oa ca ob cb xs ys by rw [hwz]; exact (unhide HRA).call (Below.refl _ _).drew)
  have HRB := hide (show RowsT wz B2 T2 oq cq op cp xq yq by rw [hwz]; exact (unhide HRB).call (Below.refl _ _).drew)
  have HB := hide (show Below w.heap.size w wz by rw [hwz]; exact (unhide HB).drew)
  have HL := hide (show Rdr wz rb a len cap by rw [hwz]; exact unhide HL)
  have hzz : uz.heap.size ≤ wz.heap.size := by rw [hwz]; exact Nat.le_refl _
  have hzy : wz.heap.size ≤ uz.heap.size := by rw [hwz]; exact Nat.le_refl _
  refine wp_region_held_drew (S := S7 u2.heap.size u4.heap.size u6.heap.size (.slice a1 vs.length c1) (.slice a2 fs.length c2) (.slice a3 rs.length c3) (.bool li) (.slice oa xs.length ca) (.slice ob ys.length cb) (.bool lq) (.slice oq xq.length cq) (.slice op yq.length cp)) (by kernel_rfl) (by rw [← hwz]; exact S7.of (unhide HGD) (unhide HGA) (unhide HGB)) (fun hHeld => ?_)
  rw [← hwz] at hHeld ⊢
  clear hwz
  refine tk 0 (v := ?_) rfl ?_ ?_
  rotate_left
  ·(intro w9 hSw; (try dsimp only at hSw); go_simp; try with_reducible rfl)
  try simp only [Act.put, sa, sb, sc]
  refine tk 1 (v := ?_) rfl ?_ ?_
  rotate_left
  ·(intro w9 hSw; (try dsimp only at hSw); go_simp; try with_reducible rfl)
  try simp only [Act.put, sa, sb, sc]
  refine tk 2 (v := ?_) rfl ?_ ?_
  rotate_left
  ·(intro w9 hSw; (try dsimp only at hSw); go_simp; try with_reducible rfl)
  try simp only [Act.put, sa, sb, sc]
  refine tk 4 (v := ?_) rfl ?_ ?_
  rotate_left
  ·(intro w9 hSw; (try dsimp only at hSw); go_simp; try with_reducible rfl)
  try simp only [Act.put, sa, sb, sc]
  refine tk 5 (v := ?_) rfl ?_ ?_
  rotate_left
  ·(intro w9 hSw; (try dsimp only at hSw); go_simp; try with_reducible rfl)
  try simp only [Act.put, sa, sb, sc]
  refine wpAnyH_ready (rs := [3]) (by kernel_rfl) (by simp) ?_
  refine AllReadyH.cons (i := 3) rfl (fun K hK => ?_) AllReadyH.nil
  go_simp
  refine (hurtEnv_c rb a len cap li oa ca ob cb xs ys u3.heap.size wz (unhide HL) (unhide HRA).1 (by omega) (by omega) (fun x e1 e2 => by have := (unhide HCO) x e1 e2; omega) (by have := unhide HXL; omega)).mono ?_
  rintro e v1 ⟨li2, oa2, ca2, xs3, rfl, hre, hlx, hq, hmv, hin⟩
  have hbo := (unhide HRA).2.1
  have hbq := (unhide HRA).2.2.1
  have hs1 : wz.heap.size ≤ v1.heap.size := hq.2.2.2.2.1
  have HR2 := hide ((unhide HR2).hu hq (by omega) (fun x e => by have := hbo x e; omega))
  have HR3 := hide ((unhide HR3).hu hq (by omega) (fun x e => by have := hbo x e; omega))
  have HR4 := hide ((unhide HR4).hu hq (by omega) (fun x e => by have := hbo x e; omega))
  have HGD := hide ((unhide HGD).hu hq (by omega) (fun x e => by have := hbo x e; omega))
  have HGA := hide ((unhide HGA).hu hq (by omega) (fun x e => by have := hbo x e; omega))
  have HGB := hide ((unhide HGB).hu hq (by omega) (fun x e => by have := hbo x e; omega))
  have HD := hide ((unhide HD).hu hq (by omega) (fun x e => by have := hbo x e; omega))
  have HRB := hide (show RowsT v1 B2 T2 oq cq op cp xq yq from ⟨(unhide HRB).1.hu hq (by omega) (fun x y e1 e2 => by have := hbo y e2; have := (unhide HRB).2.1 x e1; omega) (fun x y e1 e2 => by have := hbo y e2; have := (unhide HRB).2.2.1 x e1; omega), (unhide HRB).2.1, (unhide HRB).2.2.1, Nat.le_trans (unhide HRB).2.2.2 hs1⟩)
  have HB := hide ((unhide HB).trans (hq.below (by omega) (unhide HB).size (fun x e => by have := hbo x e; omega)))
  have HL := hide hq.1
  have hma : ∀ x, oa2 = some x → (u3.heap.size ≤ x.block ∧ x.block < u4.heap.size) ∨ wz.heap.size ≤ x.block := fun x e => by
   rcases hmv x e with ⟨y, hy, e2⟩ | e2
   ·have := hbo y hy; exact .inl (by omega)
   ·exact .inr e2
  have HMA := hide hma
  have HBQ := hide hbq
  have HRA2 := hide hre
  have HLX := hide (And.intro hlx (hin (unhide HXL).1.2))
  clear hre hlx hq hmv hin hbo hbq hma
  refine hK.out _ _ (S7.of (unhide HGD) (unhide HGA) (unhide HGB)) (fun hHeld => ?_)
  clear hK K
  try simp only [Act.put, sa, sb, sc]
  refine wpAnyH_ready (rs := [6]) (by kernel_rfl) (by simp) ?_
  refine AllReadyH.cons (i := 6) rfl (fun K hK => ?_) AllReadyH.nil
  go_simp
  refine (hurtEnv_c rb a len cap lq oq cq op cp xq yq B2 v1 (unhide HL) (unhide HRB).1 (by omega) (by have := (unhide HRB).2.2.2; omega) (fun x e1 e2 => by have := (unhide HCO) x e1 e2; omega) (by have := unhide HYL; omega)).mono ?_
  rintro e v2 ⟨lj2, oc2, cc2, xs4, rfl, hre, hlx, hq, hmv, hin⟩
  have hbo := (unhide HRB).2.1
  have hs2 : v1.heap.size ≤ v2.heap.size := hq.2.2.2.2.1
  have HR2 := hide ((unhide HR2).hu hq (by omega) (fun x e => by have := hbo x e; omega))
  have HR3 := hide ((unhide HR3).hu hq (by omega) (fun x e => by have := hbo x e; omega))
  have HR4 := hide ((unhide HR4).hu hq (by omega) (fun x e => by have := hbo x e; omega))
  have HGD := hide ((unhide HGD).hu hq (by omega) (fun x e => by have := hbo x e; omega))
  have HGA := hide ((unhide HGA).hu hq (by omega) (fun x e => by have := hbo x e; omega))
  have HGB := hide ((unhide HGB).hu hq (by omega) (fun x e => by have := hbo x e; omega))
  have HD := hide ((unhide HD).hu hq (by omega) (fun x e => by have := hbo x e; omega))
  have HRA2 := hide ((unhide HRA2).hu hq (by omega) (fun x y e1 e2 => by have := hbo y e2; have := (unhide HMA) x e1; have := (unhide HRB).2.2.2; omega) (fun x y e1 e2 => by have := hbo y e2; have := (unhide HBQ) x e1; omega))
  have HB := hide ((unhide HB).trans (hq.below (by omega) (unhide HB).size (fun x e => by have := hbo x e; omega)))
  have HRB2 := hide hre
  have HLY := hide (And.intro hlx (hin (unhide HYL).1.2))
  clear hre hlx hq hmv hin hbo HRB
  refine hK.out _ _ (S7.of (unhide HGD) (unhide HGA) (unhide HGB)) (fun hHeld => ?_)
  clear hK K
  try simp only [Act.put, sa, sb, sc]
  have r0 := (unhide HR2).1
  have r1 := (unhide HR2).2.1
  have r2 := (unhide HR2).2.2.1
  have rf0 := (unhide HR2).2.2.2 0
  have rf1 := (unhide HR2).2.2.2 1
  have rf2 := (unhide HR2).2.2.2 2
  have s0 := (unhide HR3).1
  have s1 := (unhide HR3).2.1
  have s2 := (unhide HR3).2.2.1
  have sf0 := (unhide HR3).2.2.2 0
  have sf1 := (unhide HR3).2.2.2 1
  have sf2 := (unhide HR3).2.2.2 2
  have t0 := (unhide HR4).1
  have t1 := (unhide HR4).2.1
  have t2 := (unhide HR4).2.2.1
  have tf0 := (unhide HR4).2.2.2 0
  have tf1 := (unhide HR4).2.2.2 1
  have tf2 := (unhide HR4).2.2.2 2
  have nw1 : w.heap.size ≠ w.heap.size + 1 := by omega
  have nw2 : w.heap.size ≠ w.heap.size + 1 + 1 := by omega
  have nw3 : w.heap.size + 1 ≠ w.heap.size + 1 + 1 := by omega
  refine wpAnyH_ready (rs := [7]) (by kernel_rfl) (by simp) ?_
  refine AllReadyH.cons (i := 7) rfl (fun K hK => ?_) AllReadyH.nil
  go_simp
  refine hK.out _ _ (S7.set (S7.set (S7.set hHeld (by omega) (by omega) (by omega) _) (by omega) (by omega) (by omega) _) (by omega) (by omega) (by omega) _) (fun hHeld => ?_)
  clear hK K
  try simp only [Act.put, sa, sb, sc]
  refine wpAnyH_ready (rs := [8]) (by kernel_rfl) (by simp) ?_
  refine AllReadyH.cons (i := 8) rfl (fun K hK => ?_) AllReadyH.nil
  go_simp
  refine hK.out _ _ (S7.set (S7.set (S7.set hHeld (by omega) (by omega) (by omega) _) (by omega) (by omega) (by omega) _) (by omega) (by omega) (by omega) _) (fun hHeld => ?_)
  clear hK K
  try simp only [Act.put, sa, sb, sc]
  refine wpAnyH_ready (rs := [9]) (by kernel_rfl) (by simp) ?_
  refine AllReadyH.cons (i := 9) rfl (fun K hK => ?_) AllReadyH.nil
  go_simp
  refine hK.out _ _ (S7.set (S7.set (S7.set hHeld (by omega) (by omega) (by omega) _) (by omega) (by omega) (by omega) _) (by omega) (by omega) (by omega) _) (fun hHeld => ?_)
  clear hK K
  try simp only [Act.put, sa, sb, sc]
  refine wpAnyH_done (by kernel_rfl) ?_ _
  clear hHeld
  go_wp2
  have lA := unhide HLX
  have lB := unhide HXL
  have lC := unhide HLY
  have lD := unhide HYL
  have bD := unhide HD
  have bA := unhide HRA2
  have bB := unhide HRB2
  have bW := unhide HB
  refine bodyPost_ret (v := .tuple #[.agg #[.slice a1 vs.length c1, .slice a2 fs.length c2, .slice a3 rs.length c3], .agg #[.bool li2, .slice oa2 xs3.length ca2, .slice ob ys.length cb], .agg #[.bool lj2, .slice oc2 xs4.length cc2, .slice op yq.length cp]]) (by simp [results, Tryd.results23, go_sem, r0, r1, r2, s0, s1, s2, t0, t1, t2]) rfl ⟨a1, a2, a3, c1, c2, c3, vs, fs, rs, li2, oa2, ca2, ob, cb, xs3, ys, lj2, oc2, cc2, op, cp, xs4, yq, rfl, (DeP.w9 bD (by omega) (by omega) (by omega)).1, (DeP.w9 bD (by omega) (by omega) (by omega)).2.1, (DeP.w9 bD (by omega) (by omega) (by omega)).2.2.1, unhide HZ, ?_, ?_, ⟨(unhide HLX).2, (unhide HXL).2.2, (unhide HLY).2, (unhide HYL).2.2⟩, ⟨fun x e h => by have := (bD.2.2.2.1 x e h).1; omega, fun x e h => by have := (bD.2.2.2.2.1 x e h).1; omega, fun x e h => by have := (bD.2.2.2.2.2.1 x e h).1; omega, (rows_far bA (by omega)).1, (rows_far bA (by omega)).2, (rows_far bB (by omega)).1, (rows_far bB (by omega)).2⟩, ?_⟩
  ·exact RowsE.ivs (RowsE.w9 bA (by omega) (by omega) (by omega)) (by omega)
  ·exact RowsE.ivs (RowsE.w9 bB (by omega) (by omega) (by omega)) (by omega)
  ·exact below_w9 bW (Nat.le_refl _) (Nat.le_succ _) (by omega)
end Go.Proofs.YtpdnnpnclgcpoaaDoor
