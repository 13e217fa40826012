/- What is put into an array: the specification's EnvPut. -/
import Derived.Test.YtnmpfnhjjbankaaDoorPutD
namespace Go.Proofs.YtnmpfnhjjbankaaDoor
open Go.RowKit
set_option linter.unusedSimpArgs false
set_option linter.unusedVariables false

set_option maxRecDepth 20000 in
set_option maxHeartbeats 8000000 in
theorem l7Put_c (a1 a2 a3 c1 c2 c3 : Nat) (vs fs : List ByteArray) (rs : List (ByteArray × Int)) (e1 e2 d1 d2 : Nat) (xs ys : List (Int × Int)) (v pl ph al ah : Int) (w : World) (hr : Arrs w (some ⟨a3, 0, none⟩) rs) (hx : Ivs w (some ⟨e1, 0, none⟩) xs) (hy : Ivs w (some ⟨e2, 0, none⟩) ys) (h1 : envB vs fs rs true xs ys = true) (h2 : 0 ≤ v ∧ v < (rs.length : Int)) (hah : al ≤ ah) (hok : putOk vs fs rs true xs ys v pl ph al ah = true) :
    Calls Tryd.prog 63 #[.agg #[.slice (some ⟨a1, 0, none⟩) vs.length c1, .slice (some ⟨a2, 0, none⟩) fs.length c2, .slice (some ⟨a3, 0, none⟩) rs.length c3], .agg #[.bool true, .slice (some ⟨e1, 0, none⟩) xs.length d1, .slice (some ⟨e2, 0, none⟩) ys.length d2], .int .i64 v, .agg #[.int .i64 pl, .int .i64 ph], .agg #[.int .i64 al, .int .i64 ah]] w fun e w' => ∃ oa ca ob cb, e = .returned (.tuple #[.agg #[.bool (putL vs fs rs true xs ys v pl ph al ah), .slice oa (putX vs fs rs true xs ys v pl ph al ah).length ca, .slice ob (putY vs fs rs true xs ys v pl ph al ah).length cb], .int .i64 (putA vs fs rs true xs ys v pl ph al ah)]) ∧ RowsE w' w.heap.size oa ca ob cb (putX vs fs rs true xs ys v pl ph al ah) (putY vs fs rs true xs ys v pl ph al ah) ∧ Below w.heap.size w w' := by
  have HR := hide hr
  have HX := hide hx
  have HY := hide hy
  have HB := hide (Q6.new w (.slice (some ⟨a1, 0, none⟩) vs.length c1) (.slice (some ⟨a2, 0, none⟩) fs.length c2) (.slice (some ⟨a3, 0, none⟩) rs.length c3) (.bool true) (.slice (some ⟨e1, 0, none⟩) xs.length d1) (.slice (some ⟨e2, 0, none⟩) ys.length d2) pl ph al ah 35 51 60 60 51)
  clear hr hx hy
  have HOK := hide hok
  have H1 := hide h1
  have HL := hide (env_len h1 rfl)
  have HAH := hide hah
  obtain ⟨nm, s, p, hrs, hsz, hs16, hyp, hpp⟩ := put_at h1 h2
  have HSZ := hide hsz
  have HYP := hide hyp
  have HPP := hide hpp
  have hl0 := h2.1
  have hl1 := h2.2
  have lv : (rs.length : Int) ≤ 2 := by have := unhide HL; omega
  go_enter Tryd.func63, Tryd.ntmps63
  go_upto_region 1 with fail
  generalize ((((w.alloc (Obj.cells #[.slice (some ⟨a1, 0, none⟩) vs.length c1, .slice (some ⟨a2, 0, none⟩) fs.length c2, .slice (some ⟨a3, 0, none⟩) rs.length c3] 35)).alloc (Obj.cells #[.bool true, .slice (some ⟨e1, 0, none⟩) xs.length d1, .slice (some ⟨e2, 0, none⟩) ys.length d2] 51)).alloc (Obj.cells #[.int .i64 pl, .int .i64 ph] 60)).alloc (Obj.cells #[.int .i64 al, .int .i64 ah] 60)).alloc (Obj.cells #[.bool false, .slice none 0 0, .slice none 0 0] 51) = u at HB ⊢
  have hc : u.cell? ⟨a3, v.toNat * 2 + 1, none⟩ = some (.int .i64 s) := by
    have hk : v.toNat < rs.length := by have := h2; omega
    rcases ((unhide HR).call (unhide HB).bel).2 with h0 | ⟨cb, co, he, hcell⟩
    · omega
    · obtain ⟨rfl, rfl⟩ : a3 = cb ∧ 0 = co := by injection he with q; injection q with q1 q2; exact ⟨q1, q2⟩
      have := (hcell v.toNat hk).2
      rw [List.getElem?_eq_getElem hk] at hrs
      rw [Nat.zero_add, Option.some.inj hrs] at this
      exact this
  clear hsz hyp hpp hrs hok h1 hah
  have p0 := (unhide HB).1.1
  have p1 := (unhide HB).1.2.1
  have p2 := (unhide HB).1.2.2.1
  have q0 := (unhide HB).2.1.1
  have q1 := (unhide HB).2.1.2.1
  have q2 := (unhide HB).2.1.2.2.1
  have i0 := (unhide HB).2.2.1.1
  have i1 := (unhide HB).2.2.1.2.1
  have j0 := (unhide HB).2.2.2.1.1
  have j1 := (unhide HB).2.2.2.1.2.1
  have r0 := (unhide HB).2.2.2.2.1.1
  have r1 := (unhide HB).2.2.2.2.1.2.1
  have r2 := (unhide HB).2.2.2.2.1.2.2.1
  have f0 := (unhide HB).2.2.2.2.1.2.2.2 0
  have f1 := (unhide HB).2.2.2.2.1.2.2.2 1
  have f2 := (unhide HB).2.2.2.2.1.2.2.2 2
  go_wp2_with fail
  refine (l7Place_c s pl ph hs16 _).mono ?_
  rintro e u4 ⟨rfl, kb⟩
  have HB := hide ((unhide HB).call kb)
  clear kb hc p0 p1 p2 q0 q1 q2 i0 i1 j0 j1 r0 r1 r2 f0 f1 f2
  have p0 := (unhide HB).1.1
  have p1 := (unhide HB).1.2.1
  have p2 := (unhide HB).1.2.2.1
  have q0 := (unhide HB).2.1.1
  have q1 := (unhide HB).2.1.2.1
  have q2 := (unhide HB).2.1.2.2.1
  have i0 := (unhide HB).2.2.1.1
  have i1 := (unhide HB).2.2.1.2.1
  have j0 := (unhide HB).2.2.2.1.1
  have j1 := (unhide HB).2.2.2.1.2.1
  have r0 := (unhide HB).2.2.2.2.1.1
  have r1 := (unhide HB).2.2.2.2.1.2.1
  have r2 := (unhide HB).2.2.2.2.1.2.2.1
  have f0 := (unhide HB).2.2.2.2.1.2.2.2 0
  have f1 := (unhide HB).2.2.2.2.1.2.2.2 1
  have f2 := (unhide HB).2.2.2.2.1.2.2.2 2
  cases h4 : plS s pl ph
  · have HN := hide (put_none (unhide HOK) (unhide HSZ) h4)
    clear h4
    generalize plA s pl ph = A at HN ⊢
    go_wp2
    exact bodyPost_ret (v := .tuple #[.agg #[.bool false, .slice none 0 0, .slice none 0 0], .int .i64 A]) (by simp [results, Tryd.results63, go_sem, r0, r1, r2]) rfl ⟨none, 0, none, 0, by rw [(unhide HN).1, (unhide HN).2.1, (unhide HN).2.2.1, (unhide HN).2.2.2]; rfl, by rw [(unhide HN).2.1, (unhide HN).2.2.1]; exact rows_nil _ _, ((((unhide HB).bel.setCell (by first | exact Nat.le_add_right _ _ | (simp; done) | (simp; omega)) _).setCell (by first | exact Nat.le_add_right _ _ | (simp; done) | (simp; omega)) _).setCell (by first | exact Nat.le_add_right _ _ | (simp; done) | (simp; omega)) _)⟩
  have HN := hide (put_some (unhide HOK) (unhide HSZ) h4 (unhide HYP))
  clear h4
  generalize plA s pl ph = A at HN ⊢
  go_wp2_with fail
  refine (l6Copy_c true e1 e2 d1 d2 xs ys _ ((unhide HX).call (unhide HB).bel) ((unhide HY).call (unhide HB).bel) (by have := unhide HL; omega)).mono ?_
  rintro e u5 ⟨oa, ca, ob, cb, rfl, hrows, kb⟩
  have z3 : w.heap.size + 4 < u4.heap.size := (unhide HB).2.2.2.2.1.lt
  have ka := (Below.refl _ u5).alloc (Nat.le_refl _) (Obj.cells #[.bool true, .slice oa xs.length ca, .slice ob ys.length cb] 51)
  have HB := hide (((unhide HB).call kb).call ka)
  have HRW := hide (hrows.call ka)
  have HE := hide (C3.new u5 (.bool true) (.slice oa xs.length ca) (.slice ob ys.length cb) 51)
  have hly : v.toNat < ys.length := by have := unhide HL; omega
  have hly' : v < (ys.length : Int) := by have := unhide HL; omega
  obtain ⟨X, hX⟩ : ∃ X, X = u5.heap.size := ⟨_, rfl⟩
  obtain ⟨u6, hz⟩ : ∃ z, z = u5.alloc (Obj.cells #[.bool true, .slice oa xs.length ca, .slice ob ys.length cb] 51) := ⟨_, rfl⟩
  have zX : u4.heap.size ≤ X := by rw [hX]; exact kb.size
  have gX : ∀ g, ob = some ⟨g, 0, none⟩ → g < X := fun g e => by
    have := (hrows.2.1.lt g (by rw [e]; rfl)).2
    omega
  rw [← hX, ← hz] at HE
  rw [← hz] at HB HRW
  have hXZ := hide (And.intro hX hz)
  clear hX hz ka kb hrows p0 p1 p2 q0 q1 q2 i0 i1 j0 j1 r0 r1 r2 f0 f1 f2
  obtain ⟨g, hg, g1, g2, ⟨t0, t1⟩, gf, _⟩ := (unhide HRW).writeY hly (0, 0)
  have gX' := gX g hg
  subst hg
  have hpv : ys[v.toNat] = p := by have := unhide HYP; rw [List.getElem?_eq_getElem hly] at this; exact Option.some.inj this
  rw [hpv] at t0 t1
  clear hpv gX gf
  go_upto_region 6 with fail
  rw [← (unhide hXZ).1, ← (unhide hXZ).2]
  clear hXZ
  have HC := hide (unhide HB).2.2.2.2.1
  have HK := hide (unhide HB).bel
  have HJ := hide (unhide HB).2.2.2.1
  clear HB
  obtain ⟨p1, p2⟩ := p
  dsimp only at t0 t1
  by_cases hs1 : s = 1
  · subst hs1
    have HPV := hide (show putV 1 (p1, p2) al ah = (al, ah) from if_pos rfl)
    obtain ⟨g', hg', _, _, _, gf, hrows2⟩ := (unhide HRW).writeY hly (al, ah)
    obtain rfl : g = g' := by injection hg' with q; injection q
    have gf0 := gf (v.toNat * 2)
    have gf1 := gf (v.toNat * 2 + 1)
    have HR7 := hide hrows2
    have HE7 := hide (((unhide HE).other (c := g) (o := v.toNat * 2) (v := .int .i64 al) (by omega)).other (c := g) (o := v.toNat * 2 + 1) (v := .int .i64 ah) (by omega))
    have HC7 := hide (((unhide HC).other (c := g) (o := v.toNat * 2) (v := .int .i64 al) (by omega)).other (c := g) (o := v.toNat * 2 + 1) (v := .int .i64 ah) (by omega))
    have HK7 := hide (((unhide HK).setCell (p := ⟨g, v.toNat * 2, none⟩) (by show w.heap.size ≤ g; omega) (.int .i64 al)).setCell (p := ⟨g, v.toNat * 2 + 1, none⟩) (by show w.heap.size ≤ g; omega) (.int .i64 ah))
    clear gf hrows2
    have b2 := (unhide HE).2.2.1
    have j0 := (unhide HJ).1
    have j1 := (unhide HJ).2.1
    go_upto_region 9 with fail
    clear gf0 gf1 b2 j0 j1
    generalize (u6.setCell ⟨g, v.toNat * 2, none⟩ (.int .i64 al)).setCell ⟨g, v.toNat * 2 + 1, none⟩ (.int .i64 ah) = u7 at HR7 HE7 HC7 HK7 ⊢
    have y0 := (unhide HE7).1
    have y1 := (unhide HE7).2.1
    have y2 := (unhide HE7).2.2.1
    have r0 := (unhide HC7).1
    have r1 := (unhide HC7).2.1
    have r2 := (unhide HC7).2.2.1
    have f0 := (unhide HC7).2.2.2 0
    have f1 := (unhide HC7).2.2.2 1
    have f2 := (unhide HC7).2.2.2 2
    go_wp2
    exact bodyPost_ret (v := .tuple #[.agg #[.bool true, .slice oa xs.length ca, .slice (some ⟨g, 0, none⟩) ys.length cb], .int .i64 A]) (by simp [results, Tryd.results63, go_sem, r0, r1, r2]) rfl ⟨oa, ca, some ⟨g, 0, none⟩, cb, by rw [(unhide HN).1, (unhide HN).2.1, (unhide HN).2.2.1, (unhide HN).2.2.2, List.length_set], by rw [(unhide HN).2.1, (unhide HN).2.2.1, unhide HPV]; exact ((((unhide HR7).set (by omega)).set (by omega)).set (by omega)).down (by omega), ((((unhide HK7).setCell (by first | exact Nat.le_add_right _ _ | (simp; done) | (simp; omega)) _).setCell (by first | exact Nat.le_add_right _ _ | (simp; done) | (simp; omega)) _).setCell (by first | exact Nat.le_add_right _ _ | (simp; done) | (simp; omega)) _)⟩
  · have HPV := hide (show putV s (p1, p2) al ah = (mn p1 al, mx p2 ah) from if_neg hs1)
    have b2 := (unhide HE).2.2.1
    have j0 := (unhide HJ).1
    have j1 := (unhide HJ).2.1
    go_upto_region 8 with fail
    go_region_with (go_at_call 87; refine (l2Join_c _ _ _ _ _).mono ?_; rintro e w1 ⟨rfl, hb⟩; have HE := hide ((unhide HE).call (bel_dP hb)); have HRW := hide ((unhide HRW).call (bel_dP hb)); have HC := hide ((unhide HC).call (bel_dP hb)); have HK := hide ((unhide HK).trans ((bel_dP hb).mono (unhide HK).size)); obtain ⟨g'', hg'', _, _, ⟨k0, k1⟩, kf, _⟩ := (unhide HRW).writeY hly (0, 0); obtain rfl : g = g'' := (by injection hg'' with q; injection q); have k2 := kf (v.toNat * 2); have k3 := kf (v.toNat * 2 + 1); have b3 := (unhide HE).2.2.1; clear hb kf hg'')
    all_goals
      clear b2 b3 j0 j1 t0 t1 k0 k1 k2 k3
      obtain ⟨g', hg', _, _, _, gf, hrows2⟩ := (unhide HRW).writeY hly ((mn p1 al), (mx p2 ah))
      obtain rfl : g = g' := by injection hg' with q; injection q
      have HR7 := hide hrows2
      have HE7 := hide (((unhide HE).other (c := g) (o := v.toNat * 2) (v := .int .i64 (mn p1 al)) (by omega)).other (c := g) (o := v.toNat * 2 + 1) (v := .int .i64 (mx p2 ah)) (by omega))
      have HC7 := hide (((unhide HC).other (c := g) (o := v.toNat * 2) (v := .int .i64 (mn p1 al)) (by omega)).other (c := g) (o := v.toNat * 2 + 1) (v := .int .i64 (mx p2 ah)) (by omega))
      have HK7 := hide (((unhide HK).setCell (p := ⟨g, v.toNat * 2, none⟩) (by show w.heap.size ≤ g; omega) (.int .i64 (mn p1 al))).setCell (p := ⟨g, v.toNat * 2 + 1, none⟩) (by show w.heap.size ≤ g; omega) (.int .i64 (mx p2 ah)))
      clear gf hrows2
      generalize (w1.setCell ⟨g, v.toNat * 2, none⟩ (.int .i64 (mn p1 al))).setCell ⟨g, v.toNat * 2 + 1, none⟩ (.int .i64 (mx p2 ah)) = u7 at HR7 HE7 HC7 HK7 ⊢
      have y0 := (unhide HE7).1
      have y1 := (unhide HE7).2.1
      have y2 := (unhide HE7).2.2.1
      have r0 := (unhide HC7).1
      have r1 := (unhide HC7).2.1
      have r2 := (unhide HC7).2.2.1
      have f0 := (unhide HC7).2.2.2 0
      have f1 := (unhide HC7).2.2.2 1
      have f2 := (unhide HC7).2.2.2 2
      go_wp2
      exact bodyPost_ret (v := .tuple #[.agg #[.bool true, .slice oa xs.length ca, .slice (some ⟨g, 0, none⟩) ys.length cb], .int .i64 A]) (by simp [results, Tryd.results63, go_sem, r0, r1, r2]) rfl ⟨oa, ca, some ⟨g, 0, none⟩, cb, by rw [(unhide HN).1, (unhide HN).2.1, (unhide HN).2.2.1, (unhide HN).2.2.2, List.length_set], by rw [(unhide HN).2.1, (unhide HN).2.2.1, unhide HPV]; exact ((((unhide HR7).set (by omega)).set (by omega)).set (by omega)).down (by omega), ((((unhide HK7).setCell (by first | exact Nat.le_add_right _ _ | (simp; done) | (simp; omega)) _).setCell (by first | exact Nat.le_add_right _ _ | (simp; done) | (simp; omega)) _).setCell (by first | exact Nat.le_add_right _ _ | (simp; done) | (simp; omega)) _)⟩
set_option maxRecDepth 20000 in
set_option maxHeartbeats 8000000 in
theorem sEnvPut_c (a1 a2 a3 c1 c2 c3 : Nat) (vs fs : List ByteArray) (rs : List (ByteArray × Int)) (li : Bool) (e1 e2 d1 d2 : Nat) (xs ys : List (Int × Int)) (v pl ph al ah : Int) (w : World) (hv : Strs w (some ⟨a1, 0, none⟩) vs) (hf : Strs w (some ⟨a2, 0, none⟩) fs) (hr : Arrs w (some ⟨a3, 0, none⟩) rs)
    (hz : ∀ x ∈ namesOf vs fs rs, x.size ≤ 1048576) (hx : Ivs w (some ⟨e1, 0, none⟩) xs) (hy : Ivs w (some ⟨e2, 0, none⟩) ys) :
    Calls Tryd.prog 22 #[.agg #[.slice (some ⟨a1, 0, none⟩) vs.length c1, .slice (some ⟨a2, 0, none⟩) fs.length c2, .slice (some ⟨a3, 0, none⟩) rs.length c3], .agg #[.bool li, .slice (some ⟨e1, 0, none⟩) xs.length d1, .slice (some ⟨e2, 0, none⟩) ys.length d2], .int .i64 v, .agg #[.int .i64 pl, .int .i64 ph], .agg #[.int .i64 al, .int .i64 ah]] w fun e w' => ∃ oa ca ob cb, e = .returned (.tuple #[.agg #[.bool (putL vs fs rs li xs ys v pl ph al ah), .slice oa (putX vs fs rs li xs ys v pl ph al ah).length ca, .slice ob (putY vs fs rs li xs ys v pl ph al ah).length cb], .int .i64 (putA vs fs rs li xs ys v pl ph al ah)]) ∧ RowsE w' w.heap.size oa ca ob cb (putX vs fs rs li xs ys v pl ph al ah) (putY vs fs rs li xs ys v pl ph al ah) ∧ Below w.heap.size w w' := by
  have HV := hide hv
  have HF := hide hf
  have HR := hide hr
  have HZ := hide hz
  have HX := hide hx
  have HY := hide hy
  have HB := hide (Q6.new w (.slice (some ⟨a1, 0, none⟩) vs.length c1) (.slice (some ⟨a2, 0, none⟩) fs.length c2) (.slice (some ⟨a3, 0, none⟩) rs.length c3) (.bool li) (.slice (some ⟨e1, 0, none⟩) xs.length d1) (.slice (some ⟨e2, 0, none⟩) ys.length d2) pl ph al ah 35 51 60 60 51)
  clear hv hf hr hz hx hy
  go_enter Tryd.func22, Tryd.ntmps22
  go_wp2_with fail
  generalize ((((w.alloc (Obj.cells #[.slice (some ⟨a1, 0, none⟩) vs.length c1, .slice (some ⟨a2, 0, none⟩) fs.length c2, .slice (some ⟨a3, 0, none⟩) rs.length c3] 35)).alloc (Obj.cells #[.bool li, .slice (some ⟨e1, 0, none⟩) xs.length d1, .slice (some ⟨e2, 0, none⟩) ys.length d2] 51)).alloc (Obj.cells #[.int .i64 pl, .int .i64 ph] 60)).alloc (Obj.cells #[.int .i64 al, .int .i64 ah] 60)).alloc (Obj.cells #[.bool false, .slice none 0 0, .slice none 0 0] 51) = u at HB ⊢
  refine (sEnvOk_c a1 a2 a3 c1 c2 c3 vs fs rs li e1 e2 d1 d2 xs ys _ ((unhide HV).call (unhide HB).bel) ((unhide HF).call (unhide HB).bel) ((unhide HR).call (unhide HB).bel) (unhide HZ) ((unhide HX).call (unhide HB).bel) ((unhide HY).call (unhide HB).bel)).mono ?_
  rintro e u1 ⟨rfl, kb⟩
  have HB := hide ((unhide HB).call kb)
  clear kb
  have p0 := (unhide HB).1.1
  have p1 := (unhide HB).1.2.1
  have p2 := (unhide HB).1.2.2.1
  have q0 := (unhide HB).2.1.1
  have q1 := (unhide HB).2.1.2.1
  have q2 := (unhide HB).2.1.2.2.1
  have i0 := (unhide HB).2.2.1.1
  have i1 := (unhide HB).2.2.1.2.1
  have j0 := (unhide HB).2.2.2.1.1
  have j1 := (unhide HB).2.2.2.1.2.1
  have r0 := (unhide HB).2.2.2.2.1.1
  have r1 := (unhide HB).2.2.2.2.1.2.1
  have r2 := (unhide HB).2.2.2.2.1.2.2.1
  have f0 := (unhide HB).2.2.2.2.1.2.2.2 0
  have f1 := (unhide HB).2.2.2.2.1.2.2.2 1
  have f2 := (unhide HB).2.2.2.2.1.2.2.2 2
  cases h1 : envB vs fs rs li xs ys
  · have HN := hide (put_no (show putOk vs fs rs li xs ys v pl ph al ah = false by unfold putOk; rw [h1]; rfl))
    clear h1
    go_wp2
    exact bodyPost_ret (v := .tuple #[.agg #[.bool false, .slice none 0 0, .slice none 0 0], .int .i64 0]) (by simp [results, Tryd.results22, go_sem, r0, r1, r2]) rfl ⟨none, 0, none, 0, by rw [(unhide HN).1, (unhide HN).2.1, (unhide HN).2.2.1, (unhide HN).2.2.2]; rfl, by rw [(unhide HN).2.1, (unhide HN).2.2.1]; exact rows_nil _ _, ((((unhide HB).bel.setCell (by first | exact Nat.le_add_right _ _ | (simp; done) | (simp; omega)) _).setCell (by first | exact Nat.le_add_right _ _ | (simp; done) | (simp; omega)) _).setCell (by first | exact Nat.le_add_right _ _ | (simp; done) | (simp; omega)) _)⟩
  have H1 := hide h1
  clear h1
  cases li
  · have HN := hide (put_no (show putOk vs fs rs false xs ys v pl ph al ah = false by unfold putOk; simp))
    go_wp2
    exact bodyPost_ret (v := .tuple #[.agg #[.bool false, .slice none 0 0, .slice none 0 0], .int .i64 0]) (by simp [results, Tryd.results22, go_sem, r0, r1, r2]) rfl ⟨none, 0, none, 0, by rw [(unhide HN).1, (unhide HN).2.1, (unhide HN).2.2.1, (unhide HN).2.2.2]; rfl, by rw [(unhide HN).2.1, (unhide HN).2.2.1]; exact rows_nil _ _, ((((unhide HB).bel.setCell (by first | exact Nat.le_add_right _ _ | (simp; done) | (simp; omega)) _).setCell (by first | exact Nat.le_add_right _ _ | (simp; done) | (simp; omega)) _).setCell (by first | exact Nat.le_add_right _ _ | (simp; done) | (simp; omega)) _)⟩
  have HL := hide (env_len (unhide H1) rfl)
  have lv : (rs.length : Int) ≤ 2 := by have := unhide HL; omega
  have ew : wrap64 ((rs.length : Int) - 1) = (rs.length : Int) - 1 := by unfold wrap64; omega
  go_wp2_with fail
  refine (l1In_c _ _ _ _).mono ?_
  rintro e u2 ⟨rfl, rfl⟩
  by_cases h2 : 0 ≤ v ∧ v < (rs.length : Int)
  case neg =>
    have dd : inB v 0 ((rs.length : Int) - 1) = false := decide_eq_false (by omega)
    have HN := hide (put_no (show putOk vs fs rs true xs ys v pl ph al ah = false by unfold putOk; rw [decide_eq_false h2]; simp))
    clear h2
    go_wp2
    exact bodyPost_ret (v := .tuple #[.agg #[.bool false, .slice none 0 0, .slice none 0 0], .int .i64 0]) (by simp [results, Tryd.results22, go_sem, r0, r1, r2]) rfl ⟨none, 0, none, 0, by rw [(unhide HN).1, (unhide HN).2.1, (unhide HN).2.2.1, (unhide HN).2.2.2]; rfl, by rw [(unhide HN).2.1, (unhide HN).2.2.1]; exact rows_nil _ _, ((((unhide HB).bel.setCell (by first | exact Nat.le_add_right _ _ | (simp; done) | (simp; omega)) _).setCell (by first | exact Nat.le_add_right _ _ | (simp; done) | (simp; omega)) _).setCell (by first | exact Nat.le_add_right _ _ | (simp; done) | (simp; omega)) _)⟩
  have dd : inB v 0 ((rs.length : Int) - 1) = true := decide_eq_true (by omega)
  go_wp2_with fail
  refine (sIvOk_c _ _ _).mono ?_
  rintro e u3 ⟨rfl, kb⟩
  have HB := hide ((unhide HB).call kb)
  clear kb p0 p1 p2 q0 q1 q2 i0 i1 j0 j1 r0 r1 r2 f0 f1 f2
  have p0 := (unhide HB).1.1
  have p1 := (unhide HB).1.2.1
  have p2 := (unhide HB).1.2.2.1
  have q0 := (unhide HB).2.1.1
  have q1 := (unhide HB).2.1.2.1
  have q2 := (unhide HB).2.1.2.2.1
  have i0 := (unhide HB).2.2.1.1
  have i1 := (unhide HB).2.2.1.2.1
  have j0 := (unhide HB).2.2.2.1.1
  have j1 := (unhide HB).2.2.2.1.2.1
  have r0 := (unhide HB).2.2.2.2.1.1
  have r1 := (unhide HB).2.2.2.2.1.2.1
  have r2 := (unhide HB).2.2.2.2.1.2.2.1
  have f0 := (unhide HB).2.2.2.2.1.2.2.2 0
  have f1 := (unhide HB).2.2.2.2.1.2.2.2 1
  have f2 := (unhide HB).2.2.2.2.1.2.2.2 2
  cases h3 : okB pl ph
  · have HN := hide (put_no (show putOk vs fs rs true xs ys v pl ph al ah = false by have h3' := of_decide_eq_false h3; unfold putOk bothB; simp [h3']))
    clear h3
    go_wp2
    exact bodyPost_ret (v := .tuple #[.agg #[.bool false, .slice none 0 0, .slice none 0 0], .int .i64 0]) (by simp [results, Tryd.results22, go_sem, r0, r1, r2]) rfl ⟨none, 0, none, 0, by rw [(unhide HN).1, (unhide HN).2.1, (unhide HN).2.2.1, (unhide HN).2.2.2]; rfl, by rw [(unhide HN).2.1, (unhide HN).2.2.1]; exact rows_nil _ _, ((((unhide HB).bel.setCell (by first | exact Nat.le_add_right _ _ | (simp; done) | (simp; omega)) _).setCell (by first | exact Nat.le_add_right _ _ | (simp; done) | (simp; omega)) _).setCell (by first | exact Nat.le_add_right _ _ | (simp; done) | (simp; omega)) _)⟩
  have H3 := hide (show pl ≤ ph from of_decide_eq_true h3)
  clear h3
  go_wp2_with fail
  refine (sIvOk_c _ _ _).mono ?_
  rintro e u4 ⟨rfl, kb⟩
  have HB := hide ((unhide HB).call kb)
  clear kb p0 p1 p2 q0 q1 q2 i0 i1 j0 j1 r0 r1 r2 f0 f1 f2
  have p0 := (unhide HB).1.1
  have p1 := (unhide HB).1.2.1
  have p2 := (unhide HB).1.2.2.1
  have q0 := (unhide HB).2.1.1
  have q1 := (unhide HB).2.1.2.1
  have q2 := (unhide HB).2.1.2.2.1
  have i0 := (unhide HB).2.2.1.1
  have i1 := (unhide HB).2.2.1.2.1
  have j0 := (unhide HB).2.2.2.1.1
  have j1 := (unhide HB).2.2.2.1.2.1
  have r0 := (unhide HB).2.2.2.2.1.1
  have r1 := (unhide HB).2.2.2.2.1.2.1
  have r2 := (unhide HB).2.2.2.2.1.2.2.1
  have f0 := (unhide HB).2.2.2.2.1.2.2.2 0
  have f1 := (unhide HB).2.2.2.2.1.2.2.2 1
  have f2 := (unhide HB).2.2.2.2.1.2.2.2 2
  cases h3 : okB al ah
  · have HN := hide (put_no (show putOk vs fs rs true xs ys v pl ph al ah = false by have h3' := of_decide_eq_false h3; unfold putOk bothB; simp [h3']))
    clear h3
    go_wp2
    exact bodyPost_ret (v := .tuple #[.agg #[.bool false, .slice none 0 0, .slice none 0 0], .int .i64 0]) (by simp [results, Tryd.results22, go_sem, r0, r1, r2]) rfl ⟨none, 0, none, 0, by rw [(unhide HN).1, (unhide HN).2.1, (unhide HN).2.2.1, (unhide HN).2.2.2]; rfl, by rw [(unhide HN).2.1, (unhide HN).2.2.1]; exact rows_nil _ _, ((((unhide HB).bel.setCell (by first | exact Nat.le_add_right _ _ | (simp; done) | (simp; omega)) _).setCell (by first | exact Nat.le_add_right _ _ | (simp; done) | (simp; omega)) _).setCell (by first | exact Nat.le_add_right _ _ | (simp; done) | (simp; omega)) _)⟩
  have HAH := hide (show al ≤ ah from of_decide_eq_true h3)
  have HOK := hide (show putOk vs fs rs true xs ys v pl ph al ah = true by unfold putOk bothB; rw [unhide H1, decide_eq_true h2, decide_eq_true (And.intro (unhide H3) (unhide HAH))]; rfl)
  clear h3
  go_wp2_with fail
  refine (l7Put_c a1 a2 a3 c1 c2 c3 vs fs rs e1 e2 d1 d2 xs ys v pl ph al ah _ ((unhide HR).call (unhide HB).bel) ((unhide HX).call (unhide HB).bel) ((unhide HY).call (unhide HB).bel) (unhide H1) h2 (unhide HAH) (unhide HOK)).mono ?_
  rintro e u5 ⟨oa, ca, ob, cb, rfl, hrows, kb⟩
  have z3 : w.heap.size + 4 < u4.heap.size := (unhide HB).2.2.2.2.1.lt
  have HB := hide ((unhide HB).call kb)
  have HRW := hide hrows
  clear kb hrows p0 p1 p2 q0 q1 q2 i0 i1 j0 j1 r0 r1 r2 f0 f1 f2
  have p0 := (unhide HB).1.1
  have p1 := (unhide HB).1.2.1
  have p2 := (unhide HB).1.2.2.1
  have q0 := (unhide HB).2.1.1
  have q1 := (unhide HB).2.1.2.1
  have q2 := (unhide HB).2.1.2.2.1
  have i0 := (unhide HB).2.2.1.1
  have i1 := (unhide HB).2.2.1.2.1
  have j0 := (unhide HB).2.2.2.1.1
  have j1 := (unhide HB).2.2.2.1.2.1
  have r0 := (unhide HB).2.2.2.2.1.1
  have r1 := (unhide HB).2.2.2.2.1.2.1
  have r2 := (unhide HB).2.2.2.2.1.2.2.1
  have f0 := (unhide HB).2.2.2.2.1.2.2.2 0
  have f1 := (unhide HB).2.2.2.2.1.2.2.2 1
  have f2 := (unhide HB).2.2.2.2.1.2.2.2 2
  go_wp2
  exact bodyPost_ret (v := .tuple #[.agg #[.bool (putL vs fs rs true xs ys v pl ph al ah), .slice oa (putX vs fs rs true xs ys v pl ph al ah).length ca, .slice ob (putY vs fs rs true xs ys v pl ph al ah).length cb], .int .i64 (putA vs fs rs true xs ys v pl ph al ah)]) (by simp [results, Tryd.results22, go_sem, r0, r1, r2]) rfl ⟨oa, ca, ob, cb, rfl, ((((unhide HRW).set (b := w.heap.size + 4) z3).set (b := w.heap.size + 4) z3).set (b := w.heap.size + 4) z3).down (B' := w.heap.size) (by omega), ((((unhide HB).bel.setCell (by first | exact Nat.le_add_right _ _ | (simp; done) | (simp; omega)) _).setCell (by first | exact Nat.le_add_right _ _ | (simp; done) | (simp; omega)) _).setCell (by first | exact Nat.le_add_right _ _ | (simp; done) | (simp; omega)) _)⟩
end Go.Proofs.YtnmpfnhjjbankaaDoor
