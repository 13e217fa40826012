/- Texts that go together: TjD, TjE. -/
import Derived.Test.YtcjefmeadnmbhaaDoorTjY
import Derived.Test.YtcjefmeadnmbhaaDoorJoiE
/- Joined tables: the program's closure. -/
namespace Go.Proofs.YtcjefmeadnmbhaaDoor
open Go.RowKit
set_option linter.unusedSimpArgs false
set_option linter.unusedVariables false

set_option maxRecDepth 20000 in
set_option maxHeartbeats 2000000 in
theorem tj1_c (bd a1 a2 a3 c1 c2 c3 : Nat) (vs fs : List ByteArray) (rs : List (ByteArray × Int)) (li : Bool) (e1 e2 d1 d2 : Nat) (xs ys : List (Int × Int)) (lj : Bool) (e3 e4 d3 d4 : Nat) (xs2 ys2 : List (Int × Int)) (w : World) (hd : C3 w bd (.slice (some ⟨a1, 0, none⟩) vs.length c1) (.slice (some ⟨a2, 0, none⟩) fs.length c2) (.slice (some ⟨a3, 0, none⟩) rs.length c3)) (hw : KW w) (hv : Strs w (some ⟨a1, 0, none⟩) vs) (hf : Strs w (some ⟨a2, 0, none⟩) fs) (hr : Arrs w (some ⟨a3, 0, none⟩) rs)
    (hz : ∀ x ∈ namesOf vs fs rs, x.size ≤ 1048576) (hx : Ivs w (some ⟨e1, 0, none⟩) xs) (hy : Ivs w (some ⟨e2, 0, none⟩) ys) (hx2 : Ivs w (some ⟨e3, 0, none⟩) xs2) (hy2 : Ivs w (some ⟨e4, 0, none⟩) ys2) (h1 : envB vs fs rs li xs ys = true) (h2 : envB vs fs rs lj xs2 ys2 = true) :
    Calls Tryd.prog 55 #[.agg #[.bool li, .slice (some ⟨e1, 0, none⟩) xs.length d1, .slice (some ⟨e2, 0, none⟩) ys.length d2], .agg #[.bool lj, .slice (some ⟨e3, 0, none⟩) xs2.length d3, .slice (some ⟨e4, 0, none⟩) ys2.length d4], .pointer (some ⟨bd, 0, none⟩)] w
    fun e w' => ∃ oa ca ob cb, e = .returned (.agg #[.bool (li || lj), .slice oa (jsV li lj xs ys xs2 ys2).1.length ca, .slice ob (jsV li lj xs ys xs2 ys2).2.length cb]) ∧ RowsE w' w.heap.size oa ca ob cb (jsV li lj xs ys xs2 ys2).1 (jsV li lj xs ys xs2 ys2).2 ∧ Below w.heap.size w w' := by
  have HD := hide hd
  have HW := hide hw
  have HV := hide hv
  have HF := hide hf
  have HR := hide hr
  have HZ := hide hz
  have HX := hide hx
  have HY := hide hy
  have HX2 := hide hx2
  have HY2 := hide hy2
  have HJ := hide (joi_js h1 h2)
  have HB := hide (B3.new w (.bool li) (.slice (some ⟨e1, 0, none⟩) xs.length d1) (.slice (some ⟨e2, 0, none⟩) ys.length d2) (.bool lj) (.slice (some ⟨e3, 0, none⟩) xs2.length d3) (.slice (some ⟨e4, 0, none⟩) ys2.length d4) (.bool false) (.slice none 0 0) (.slice none 0 0) 44 44 44)
  clear hd hw hv hf hr hz hx hy hx2 hy2 h1 h2
  have HDU := hide ((unhide HD).call (unhide HB).2.2.2)
  go_enter Tryd.func55, Tryd.ntmps55
  go_upto_region 1 with fail
  generalize ((w.alloc (Obj.cells #[.bool li, .slice (some ⟨e1, 0, none⟩) xs.length d1, .slice (some ⟨e2, 0, none⟩) ys.length d2] 44)).alloc (Obj.cells #[.bool lj, .slice (some ⟨e3, 0, none⟩) xs2.length d3, .slice (some ⟨e4, 0, none⟩) ys2.length d4] 44)).alloc (Obj.cells #[.bool false, .slice none 0 0, .slice none 0 0] 44) = u at HB HDU ⊢
  have p0 := (unhide HDU).1
  have p1 := (unhide HDU).2.1
  have p2 := (unhide HDU).2.2.1
  have q0 := (unhide HB).1.1
  have q1 := (unhide HB).1.2.1
  have q2 := (unhide HB).1.2.2.1
  have s0 := (unhide HB).2.1.1
  have s1 := (unhide HB).2.1.2.1
  have s2 := (unhide HB).2.1.2.2.1
  go_wp2_with fail
  refine (iEnvJoin_c a1 a2 a3 c1 c2 c3 vs fs rs li e1 e2 d1 d2 xs ys lj e3 e4 d3 d4 xs2 ys2 _ ((unhide HW).call (unhide HB).2.2.2) ((unhide HV).call (unhide HB).2.2.2) ((unhide HF).call (unhide HB).2.2.2) ((unhide HR).call (unhide HB).2.2.2) (unhide HZ) ((unhide HX).call (unhide HB).2.2.2) ((unhide HY).call (unhide HB).2.2.2) ((unhide HX2).call (unhide HB).2.2.2) ((unhide HY2).call (unhide HB).2.2.2)).mono ?_
  rw [(unhide HJ).1, (unhide HJ).2]
  rintro e u1 ⟨oa, ca, ob, cb, rfl, hrows, kb⟩
  have z3 : w.heap.size + 2 < u.heap.size := (unhide HB).2.2.1.lt
  have HB := hide ((unhide HB).call kb)
  have HRW := hide hrows
  clear kb hrows p0 p1 p2 q0 q1 q2 s0 s1 s2 HDU
  have r0 := (unhide HB).2.2.1.1
  have r1 := (unhide HB).2.2.1.2.1
  have r2 := (unhide HB).2.2.1.2.2.1
  have f0 := (unhide HB).2.2.1.2.2.2 0
  have f1 := (unhide HB).2.2.1.2.2.2 1
  have f2 := (unhide HB).2.2.1.2.2.2 2
  go_wp2
  exact bodyPost_ret (v := .agg #[.bool (li || lj), .slice oa (jsV li lj xs ys xs2 ys2).1.length ca, .slice ob (jsV li lj xs ys xs2 ys2).2.length cb]) (by simp [results, Tryd.results55, go_sem, r0, r1, r2]) rfl ⟨oa, ca, ob, cb, rfl, ((((unhide HRW).set (b := w.heap.size + 2) z3).set (b := w.heap.size + 2) z3).set (b := w.heap.size + 2) z3).down (B' := w.heap.size) (by omega), ((((unhide HB).2.2.2.setCell (by first | exact Nat.le_add_right _ _ | (simp; done) | (simp; omega)) _).setCell (by first | exact Nat.le_add_right _ _ | (simp; done) | (simp; omega)) _).setCell (by first | exact Nat.le_add_right _ _ | (simp; done) | (simp; omega)) _)⟩
end Go.Proofs.YtcjefmeadnmbhaaDoor

/- Joined tables: the program's functions. -/
namespace Go.Proofs.YtcjefmeadnmbhaaDoor
open Go.RowKit
set_option linter.unusedSimpArgs false
set_option linter.unusedVariables false

set_option maxRecDepth 20000 in
set_option maxHeartbeats 8000000 in
theorem leafJ_c (bd : Nat) (a1 a2 a3 c1 c2 c3 : Nat) (vs fs : List ByteArray) (rs : List (ByteArray × Int)) (b1 d1 : Nat) (es1 : List ER) (b2 d2 : Nat) (es2 : List ER) (w : World) (hd : C3 w bd (.slice (some ⟨a1, 0, none⟩) vs.length c1) (.slice (some ⟨a2, 0, none⟩) fs.length c2) (.slice (some ⟨a3, 0, none⟩) rs.length c3)) (hw : KW w) (hv : Strs w (some ⟨a1, 0, none⟩) vs) (hf : Strs w (some ⟨a2, 0, none⟩) fs) (hr : Arrs w (some ⟨a3, 0, none⟩) rs)
    (hz : ∀ x ∈ namesOf vs fs rs, x.size ≤ 1048576) (h1 : OwnE w b1 es1) (h2 : OwnE w b2 es2) :
    Calls Tryd.prog 54 #[.agg #[.slice (some ⟨a1, 0, none⟩) vs.length c1, .slice (some ⟨a2, 0, none⟩) fs.length c2, .slice (some ⟨a3, 0, none⟩) rs.length c3], .slice (some ⟨b1, 0, none⟩) es1.length d1, .slice (some ⟨b2, 0, none⟩) es2.length d2, .func (.func 55) #[] #[.pointer (some ⟨bd, 0, none⟩)]] w fun e w' => ∃ oc cc ps T, e = .returned (.slice oc (tjV vs fs rs es1 es2).length cc) ∧ RowT w' w.heap.size T oc cc ps (tjV vs fs rs es1 es2) ∧ Below w.heap.size w w' := by
  have HD := hide hd
  have HW := hide hw
  have HV := hide hv
  have HF := hide hf
  have HR := hide hr
  have HZ := hide hz
  have H1 := hide h1
  have H2 := hide h2
  have HQ := hide (QD.new w (.slice (some ⟨a1, 0, none⟩) vs.length c1) (.slice (some ⟨a2, 0, none⟩) fs.length c2) (.slice (some ⟨a3, 0, none⟩) rs.length c3) 40)
  clear hd hw hv hf hr hz h1 h2
  obtain ⟨inf, hi, hz0, hz1, hz2⟩ := info_parts envInfo
  go_enter Tryd.func54, Tryd.ntmps54
  go_upto_region 1 with fail
  generalize w.alloc (Obj.cells #[.slice (some ⟨a1, 0, none⟩) vs.length c1, .slice (some ⟨a2, 0, none⟩) fs.length c2, .slice (some ⟨a3, 0, none⟩) rs.length c3] 40) = u at HQ ⊢
  have p0 := (unhide HQ).1.1
  have p1 := (unhide HQ).1.2.1
  have p2 := (unhide HQ).1.2.2.1
  go_wp2_with fail
  refine (iTableOk_c a1 a2 a3 c1 c2 c3 vs fs rs b1 _ es1 _ ((unhide HW).call (unhide HQ).2) ((unhide HV).call (unhide HQ).2) ((unhide HF).call (unhide HQ).2) ((unhide HR).call (unhide HQ).2) (unhide HZ) ((unhide H1).call (unhide HQ).2)).mono ?_
  rintro e u1 ⟨rfl, kb⟩
  have HQ := hide ((unhide HQ).call kb)
  clear kb p0 p1 p2
  have p0 := (unhide HQ).1.1
  have p1 := (unhide HQ).1.2.1
  have p2 := (unhide HQ).1.2.2.1
  cases t1 : tabB vs fs rs es1
  · have HN := hide (tjV_no (es2 := es2) (.inl t1))
    clear t1
    go_wp2
    go_ret
    exact ⟨none, 0, [], _, by rw [unhide HN]; rfl, by rw [unhide HN]; exact RowT.nil _ _, (unhide HQ).2⟩
  have T1 := hide t1
  clear t1
  go_wp2_with fail
  refine (iTableOk_c a1 a2 a3 c1 c2 c3 vs fs rs b2 _ es2 _ ((unhide HW).call (unhide HQ).2) ((unhide HV).call (unhide HQ).2) ((unhide HF).call (unhide HQ).2) ((unhide HR).call (unhide HQ).2) (unhide HZ) ((unhide H2).call (unhide HQ).2)).mono ?_
  rintro e u2 ⟨rfl, kb⟩
  have HQ := hide ((unhide HQ).call kb)
  clear kb p0 p1 p2
  cases t2 : tabB vs fs rs es2
  · have HN := hide (tjV_no (es1 := es1) (.inr t2))
    clear t2
    go_wp2
    go_ret
    exact ⟨none, 0, [], _, by rw [unhide HN]; rfl, by rw [unhide HN]; exact RowT.nil _ _, (unhide HQ).2⟩
  have HN := hide (tjV_yes (unhide T1) t2)
  have T2 := hide t2
  clear t2
  have HLE := hide (show es1.length = es2.length from (tab_len (unhide T1)).trans (tab_len (unhide T2)).symm)
  have HL8 := hide (show es1.length ≤ 8 by
    have t1 := unhide T1
    have e := tab_len t1
    have hd : declB vs fs rs = true := by unfold tabB at t1; rw [Bool.and_eq_true] at t1; exact t1.1
    have l := (declB_len hd).2.1
    rw [e]
    have : 2 ^ fs.length ≤ 2 ^ 3 := Nat.pow_le_pow_right (by decide) l
    omega)
  have hl : (es1.length : Int) ≤ 8 := by have := unhide HL8; omega
  have HK2 := hide (unhide HQ).2
  clear HQ
  go_wp2
  go_loopw [9, 23] (fun l i wr => ∃ (J : List ER) (ps : List PE) (T : Nat) (oc : Option Addr) (cc : Nat), J.length ≤ es1.length ∧ J = (List.zipWith jsR es1 es2).take J.length ∧ i = .int .i64 J.length ∧ l = .slice oc J.length cc ∧ RowT wr w.heap.size T oc cc ps J ∧ Below w.heap.size w wr) (fun _ i _ => es1.length - (intOf i).toNat)
  case atStart => exact ⟨[], [], _, _, _, Nat.zero_le _, by simp, rfl, rfl, RowT.nil _ _, unhide HK2⟩
  case round =>
    obtain ⟨J, ps, T, oc, cc, hJl, hJt, rfl, rfl, hrt, hb⟩ := hrel
    have HRT := hide hrt
    have HB := hide hb
    have HJT := hide hJt
    clear hrt hJt
    by_cases hlt : J.length < es1.length
    · have hlt2 : J.length < es2.length := by rw [← unhide HLE]; exact hlt
      have HJ2 := hide (jsR_take es1 es2 J.length hlt hlt2)
      obtain ⟨g1, g2, _, _, k1, k2, k3, o1, o2⟩ := (unhide H1).2.1 J.length hlt
      obtain ⟨g3, g4, _, _, k4, k5, k6, o3, o4⟩ := (unhide H2).2.1 J.length hlt2
      have e1 := tab_env (unhide T1) J.length hlt
      have e2 := tab_env (unhide T2) J.length hlt2
      have HO := hide (And.intro o1.1 (And.intro o2.1 (And.intro o3.1 o4.1)))
      have hs := SX.of ⟨k1, k2, k3, k4, k5, k6⟩ hb
      have HE := hide (And.intro e1 e2)
      clear o1 o2 o3 o4 k1 k2 k3 k4 k5 k6 e1 e2 hb
      obtain ⟨p, hp⟩ : ∃ p, p = es1[J.length] := ⟨_, rfl⟩
      obtain ⟨q, hq⟩ : ∃ q, q = es2[J.length] := ⟨_, rfl⟩
      rw [← hp, ← hq] at HJ2 HO hs HE
      clear hp hq
      obtain ⟨pl, px, py⟩ := p
      obtain ⟨ql, qx, qy⟩ := q
      dsimp only at hs HO HE
      have hlt' : (J.length : Int) < (es1.length : Int) := by omega
      have hlt2' : (J.length : Int) < (es2.length : Int) := by omega
      have zw := (unhide HB).size
      go_wp2_with fail
      go_region_held3 (SX w b1 b2 J.length (.bool pl) (.slice (some ⟨g1, 0, none⟩) px.length px.length) (.slice (some ⟨g2, 0, none⟩) py.length py.length) (.bool ql) (.slice (some ⟨g3, 0, none⟩) qx.length qx.length) (.slice (some ⟨g4, 0, none⟩) qy.length qy.length))
        (first | exact hs4 | exact hs2 | exact SX.drew (by assumption) | exact SX.alloc (by assumption) _)
        (first
          | (go_at_call 55; refine (tj1_c bd a1 a2 a3 c1 c2 c3 vs fs rs pl g1 g2 _ _ px py ql g3 g4 _ _ qx qy _ ((unhide HD).call (unhide HB).drew) ((unhide HW).call (unhide HB).drew) ((unhide HV).call (unhide HB).drew) ((unhide HF).call (unhide HB).drew) ((unhide HR).call (unhide HB).drew) (unhide HZ) ((unhide HO).1.call (unhide HB).drew) ((unhide HO).2.1.call (unhide HB).drew) ((unhide HO).2.2.1.call (unhide HB).drew) ((unhide HO).2.2.2.call (unhide HB).drew) (unhide HE).1 (unhide HE).2).mono ?_; rintro e u4 ⟨oa, ca, ob, cb, rfl, hrows, kb⟩; have hs2 := SX.call kb (SX.drew hs); have kq := (Below.refl wr.heap.size wr).drew.trans kb)
          | (refine step_app2 _ (by rfl) _ _ _ (by rfl) w.heap.size 44 inf (.agg #[.bool false, .slice none 0 0, .slice none 0 0]) 3 56 Tryd.underlying54 hi hz0 hz1 hz2 rfl (by decide) _ _ _ (by rfl) ((((unhide HRT).call kq).2.1).alloc _) ⟨_, 0, none⟩ 1 1 (hdrE ⟨oa, ca, ob, cb, wr.heap.size, u4.heap.size⟩ (jsR (pl, px, py) (ql, qx, qy))) (by rfl) rfl (World.news_of_block (heap_alloc_new _ _)) (hdrE_one _ _) (by unfold maxLen; have := unhide HL8; omega) (by have := unhide HL8; omega) (by have := kq.size; simp; omega) ?_; intro oc' cc' w5 hown hgrow hloc; have hs4 := SX.to hs2 ((hs2.bel.alloc hs2.bel.size _).grown hgrow (by have := kq.size; simp; omega) (fun j hj => (((unhide HRT).call kq).2.1.lt j hj).1))))
      rename_i hHeld
      have HRT5 := hide (((unhide HRT).call kq).snoc (p := ⟨oa, ca, ob, cb, wr.heap.size, u4.heap.size⟩) (e := jsR (pl, px, py) (ql, qx, qy)) (unhide HRT).2.2.2.2.2 (RowsT.of hrows) zw kq.size ((Below.refl _ u4).alloc (Nat.le_refl _) _) hown hgrow hloc)
      have HB5 := hide hs4.bel
      clear hHeld hs hs2 hs4 hown hgrow hloc kq kb hrows HRT HO HE
      go_wp2
      go_roundw
      case rel =>
        have el : (J ++ [jsR (pl, px, py) (ql, qx, qy)]).length = J.length + 1 := by simp
        exact ⟨J ++ [jsR (pl, px, py) (ql, qx, qy)], _, _, oc', cc', by rw [el]; omega, by rw [el, unhide HJ2, ← unhide HJT], by rw [el]; go_num, by rw [el], unhide HRT5, unhide HB5⟩
      case measure => simp [intOf]; omega
    · have ej : J.length = es1.length := by omega
      have HE := hide (show J = List.zipWith jsR es1 es2 by
        have h := unhide HJT
        rw [h, List.take_of_length_le (by rw [List.length_zipWith, ej]; omega)])
      have hlt' : ¬ ((J.length : Int) < (es1.length : Int)) := by omega
      clear hb
      go_wp2
      go_ret
      have a1 := (unhide HN).2
      have a2 : RowT wr w.heap.size T oc cc ps (tjV vs fs rs es1 es2) := by rw [(unhide HN).1, ← unhide HE]; exact unhide HRT
      first
        | exact ⟨oc, cc, ps, T, by rw [a1]; rfl, a2, unhide HB⟩
        | exact ⟨oc, cc, by rw [a1]; rfl, ⟨ps, T, a2⟩, unhide HB⟩
set_option maxRecDepth 20000 in
set_option maxHeartbeats 2000000 in
theorem iTableJoin_c (a1 a2 a3 c1 c2 c3 : Nat) (vs fs : List ByteArray) (rs : List (ByteArray × Int)) (b1 d1 : Nat) (es1 : List ER) (b2 d2 : Nat) (es2 : List ER) (w : World) (hw : KW w) (hv : Strs w (some ⟨a1, 0, none⟩) vs) (hf : Strs w (some ⟨a2, 0, none⟩) fs) (hr : Arrs w (some ⟨a3, 0, none⟩) rs)
    (hz : ∀ x ∈ namesOf vs fs rs, x.size ≤ 1048576) (h1 : OwnE w b1 es1) (h2 : OwnE w b2 es2) :
    Calls Tryd.prog 20 #[.agg #[.slice (some ⟨a1, 0, none⟩) vs.length c1, .slice (some ⟨a2, 0, none⟩) fs.length c2, .slice (some ⟨a3, 0, none⟩) rs.length c3], .slice (some ⟨b1, 0, none⟩) es1.length d1, .slice (some ⟨b2, 0, none⟩) es2.length d2] w fun e w' => ∃ oc cc ps T, e = .returned (.slice oc (tjV vs fs rs es1 es2).length cc) ∧ RowT w' w.heap.size T oc cc ps (tjV vs fs rs es1 es2) ∧ Below w.heap.size w w' := by
  have hmf : ∀ (fn : Fn) (first cap : Array Value) (w : World), (Instr.makeFunc fn first cap).run Tryd.prog w = .ok (.func fn first cap) w := fun _ _ _ _ => rfl
  have HW := hide hw
  have HV := hide hv
  have HF := hide hf
  have HR := hide hr
  have HZ := hide hz
  have H1 := hide h1
  have H2 := hide h2
  have HQ := hide (QD.new w (.slice (some ⟨a1, 0, none⟩) vs.length c1) (.slice (some ⟨a2, 0, none⟩) fs.length c2) (.slice (some ⟨a3, 0, none⟩) rs.length c3) 40)
  clear hw hv hf hr hz h1 h2
  go_enter Tryd.func20, Tryd.ntmps20
  go_upto_region 1 with fail
  generalize w.alloc (Obj.cells #[.slice (some ⟨a1, 0, none⟩) vs.length c1, .slice (some ⟨a2, 0, none⟩) fs.length c2, .slice (some ⟨a3, 0, none⟩) rs.length c3] 40) = u at HQ ⊢
  have p0 := (unhide HQ).1.1
  have p1 := (unhide HQ).1.2.1
  have p2 := (unhide HQ).1.2.2.1
  go_wp2_with fail
  refine (leafJ_c w.heap.size a1 a2 a3 c1 c2 c3 vs fs rs b1 _ es1 b2 _ es2 _ (unhide HQ).1 ((unhide HW).call (unhide HQ).2) ((unhide HV).call (unhide HQ).2) ((unhide HF).call (unhide HQ).2) ((unhide HR).call (unhide HQ).2) (unhide HZ) ((unhide H1).call (unhide HQ).2) ((unhide H2).call (unhide HQ).2)).mono ?_
  rintro e u3 ⟨oc, cc, ps, T, rfl, hrt, kb⟩
  have HRT := hide hrt
  have HK := hide ((unhide HQ).2.trans (kb.mono (unhide HQ).2.size))
  clear hrt kb p0 p1 p2
  go_wp2
  go_ret
  exact ⟨oc, cc, ps, T, rfl, (unhide HRT).down (unhide HQ).2.size, unhide HK⟩
end Go.Proofs.YtcjefmeadnmbhaaDoor

