/- Texts that go together: TwB, TwC, TwD, TwE, TwL, MarkI. -/
import Derived.Test.YtcjefmeadnmbhaaDoorTjY
import Derived.Test.YtcjefmeadnmbhaaDoorWdZ
import Derived.Test.YtcjefmeadnmbhaaDoorTjU
import Derived.Test.YtcjefmeadnmbhaaDoorMarkD
/- Widened tables: the specification's loop. -/
namespace Go.Proofs.YtcjefmeadnmbhaaDoor
open Go.RowKit
set_option linter.unusedSimpArgs false
set_option linter.unusedVariables false

/-- Two bounds widened. -/
def wsR (st : List Int) (p q : ER) : ER := (p.1 || q.1, wsV st p.1 q.1 p.2.1 p.2.2 q.2.1 q.2.2)
theorem wsR_take (st : List Int) (a b : List ER) (k : Nat) (h1 : k < a.length) (h2 : k < b.length) : (List.zipWith (wsR st) a b).take (k + 1) = (List.zipWith (wsR st) a b).take k ++ [wsR st a[k] b[k]] := by
  rw [List.take_succ_eq_append_getElem (by rw [List.length_zipWith]; omega), List.getElem_zipWith]
set_option maxRecDepth 20000 in
set_option maxHeartbeats 8000000 in
theorem l8Widen_c (sa : Option Addr) (sc : Nat) (st : List Int) (vs fs : List ByteArray) (rs : List (ByteArray × Int)) (b1 d1 : Nat) (es1 : List ER) (b2 d2 : Nat) (es2 : List ER) (w : World) (hzs : Ints w sa st) (h1 : OwnE w b1 es1) (h2 : OwnE w b2 es2) (t1 : tabB vs fs rs es1 = true) (t2 : tabB vs fs rs es2 = true) :
    Calls Tryd.prog 61 #[.slice (some ⟨b1, 0, none⟩) es1.length d1, .slice (some ⟨b2, 0, none⟩) es2.length d2, .slice sa st.length sc] w fun e w' => ∃ oc cc ps T, e = .returned (.slice oc es1.length cc) ∧ RowT w' w.heap.size T oc cc ps (List.zipWith (wsR st) es1 es2) ∧ Below w.heap.size w w' := by
  have HZS := hide hzs
  have H1 := hide h1
  have H2 := hide h2
  have HT := hide (And.intro t1 t2)
  have HLE := hide (show es1.length = es2.length from (tab_len t1).trans (tab_len t2).symm)
  have HL8 := hide (show es1.length ≤ 8 by
    have e := tab_len t1
    have hd : declB vs fs rs = true := by unfold tabB at t1; rw [Bool.and_eq_true] at t1; exact t1.1
    have l := (declB_len hd).2.1
    rw [e]
    have : 2 ^ fs.length ≤ 2 ^ 3 := Nat.pow_le_pow_right (by decide) l
    omega)
  have hl : (es1.length : Int) ≤ 8 := by have := unhide HL8; omega
  clear h1 h2 t1 t2 hzs
  obtain ⟨inf, hi, hz0, hz1, hz2⟩ := info_parts envInfo
  go_enter Tryd.func61, Tryd.ntmps61
  go_wp2
  go_loopw [7, 8] (fun l i wr => ∃ (J : List ER) (ps : List PE) (T : Nat) (oc : Option Addr) (cc : Nat), J.length ≤ es1.length ∧ J = (List.zipWith (wsR st) es1 es2).take J.length ∧ i = .int .i64 J.length ∧ l = .slice oc J.length cc ∧ RowT wr w.heap.size T oc cc ps J ∧ Below w.heap.size w wr) (fun _ i _ => es1.length - (intOf i).toNat)
  case atStart => exact ⟨[], [], _, _, _, Nat.zero_le _, by simp, rfl, rfl, RowT.zero w, (Below.refl _ _).alloc (Nat.le_refl _) _⟩
  case round =>
    obtain ⟨J, ps, T, oc, cc, hJl, hJt, rfl, rfl, hrt, hb⟩ := hrel
    have HRT := hide hrt
    have HB := hide hb
    have HJT := hide hJt
    clear hrt hJt
    by_cases hlt : J.length < es1.length
    · have hlt2 : J.length < es2.length := by rw [← unhide HLE]; exact hlt
      have HJ2 := hide (wsR_take st es1 es2 J.length hlt hlt2)
      obtain ⟨g1, g2, _, _, c1, c2, c3, o1, o2⟩ := (unhide H1).2.1 J.length hlt
      obtain ⟨g3, g4, _, _, c4, c5, c6, o3, o4⟩ := (unhide H2).2.1 J.length hlt2
      have e1 := tab_env (unhide HT).1 J.length hlt
      have e2 := tab_env (unhide HT).2 J.length hlt2
      have HO := hide (And.intro o1.1 (And.intro o2.1 (And.intro o3.1 o4.1)))
      have hs := SX.of ⟨c1, c2, c3, c4, c5, c6⟩ hb
      have HS0 := hide (And.intro (env_small e1) (env_small e2))
      have HS1 := hide (env_lens e1 e2)
      clear o1 o2 o3 o4 c1 c2 c3 c4 c5 c6 e1 e2 hb
      obtain ⟨p, hp⟩ : ∃ p, p = es1[J.length] := ⟨_, rfl⟩
      obtain ⟨q, hq⟩ : ∃ q, q = es2[J.length] := ⟨_, rfl⟩
      rw [← hp, ← hq] at HJ2 HO hs HS0 HS1
      clear hp hq
      obtain ⟨pl, px, py⟩ := p
      obtain ⟨ql, qx, qy⟩ := q
      dsimp only at hs HO HS0 HS1
      have hlt' : (J.length : Int) < (es1.length : Int) := by omega
      have hlt2' : (J.length : Int) < (es2.length : Int) := by omega
      have zw := (unhide HB).size
      go_wp2_with fail
      go_region_held3 (SX w b1 b2 J.length (.bool pl) (.slice (some ⟨g1, 0, none⟩) px.length px.length) (.slice (some ⟨g2, 0, none⟩) py.length py.length) (.bool ql) (.slice (some ⟨g3, 0, none⟩) qx.length qx.length) (.slice (some ⟨g4, 0, none⟩) qy.length qy.length))
        (first | exact hs4 | exact hs2 | exact SX.drew (by assumption) | exact SX.alloc (by assumption) _)
        (first
          | (go_at_call 82; refine (l6Widen_c pl g1 g2 _ _ px py ql g3 g4 _ _ qx qy sa sc st _ ((unhide HZS).call (unhide HB).drew) ((unhide HO).1.call (unhide HB).drew) ((unhide HO).2.1.call (unhide HB).drew) ((unhide HO).2.2.1.call (unhide HB).drew) ((unhide HO).2.2.2.call (unhide HB).drew) (by have := unhide HS0; omega) (fun a b => (unhide HS1) a b)).mono ?_; rintro e u4 ⟨oa, ca, ob, cb, rfl, hrows, kb⟩; have hs2 := SX.call kb (SX.drew hs); have kq := (Below.refl wr.heap.size wr).drew.trans kb)
          | (refine step_app2 _ (by rfl) _ _ _ (by rfl) w.heap.size 44 inf (.agg #[.bool false, .slice none 0 0, .slice none 0 0]) 3 56 Tryd.underlying54 hi hz0 hz1 hz2 rfl (by decide) _ _ _ (by rfl) ((((unhide HRT).call kq).2.1).alloc _) ⟨_, 0, none⟩ 1 1 (hdrE ⟨oa, ca, ob, cb, wr.heap.size, u4.heap.size⟩ ((wsR st) (pl, px, py) (ql, qx, qy))) (by rfl) rfl (World.news_of_block (heap_alloc_new _ _)) (hdrE_one _ _) (by unfold maxLen; have := unhide HL8; omega) (by have := unhide HL8; omega) (by have := kq.size; simp; omega) ?_; intro oc' cc' w5 hown hgrow hloc; have hs4 := SX.to hs2 ((hs2.bel.alloc hs2.bel.size _).grown hgrow (by have := kq.size; simp; omega) (fun j hj => (((unhide HRT).call kq).2.1.lt j hj).1))))
      rename_i hHeld
      have HRT5 := hide (((unhide HRT).call kq).snoc (p := ⟨oa, ca, ob, cb, wr.heap.size, u4.heap.size⟩) (e := (wsR st) (pl, px, py) (ql, qx, qy)) (unhide HRT).2.2.2.2.2 (RowsT.of hrows) zw kq.size ((Below.refl _ u4).alloc (Nat.le_refl _) _) hown hgrow hloc)
      have HB5 := hide hs4.bel
      clear hHeld hs hs2 hs4 hown hgrow hloc kq kb hrows HRT HO HS0 HS1
      go_wp2
      go_roundw
      case rel =>
        have el : (J ++ [(wsR st) (pl, px, py) (ql, qx, qy)]).length = J.length + 1 := by simp
        exact ⟨J ++ [(wsR st) (pl, px, py) (ql, qx, qy)], _, _, oc', cc', by rw [el]; omega, by rw [el, unhide HJ2, ← unhide HJT], by rw [el]; go_num, by rw [el], unhide HRT5, unhide HB5⟩
      case measure => simp [intOf]; omega
    · have ej : J.length = es1.length := by omega
      have HE := hide (show J = List.zipWith (wsR st) es1 es2 by
        have h := unhide HJT
        rw [h, List.take_of_length_le (by rw [List.length_zipWith, ej]; omega)])
      have hlt' : ¬ ((J.length : Int) < (es1.length : Int)) := by omega
      clear hb
      go_wp2
      go_ret
      exact ⟨oc, cc, by rw [← ej]; rfl, ⟨ps, T, by rw [← unhide HE]; exact unhide HRT⟩, unhide HB⟩
end Go.Proofs.YtcjefmeadnmbhaaDoor

/- Widened tables: the specification's function. -/
namespace Go.Proofs.YtcjefmeadnmbhaaDoor
open Go.RowKit
set_option linter.unusedSimpArgs false
set_option linter.unusedVariables false

/-- What the widening of tables is. -/
def twV (st : List Int) (vs fs : List ByteArray) (rs : List (ByteArray × Int)) (es1 es2 : List ER) : List ER := if st.length ≤ 100 ∧ tabB vs fs rs es1 = true ∧ tabB vs fs rs es2 = true then List.zipWith (wsR st) es1 es2 else []
theorem twV_no {st : List Int} {vs fs : List ByteArray} {rs : List (ByteArray × Int)} {es1 es2 : List ER} (h : tabB vs fs rs es1 = false ∨ tabB vs fs rs es2 = false ∨ ¬ st.length ≤ 100) : twV st vs fs rs es1 es2 = [] := by
  unfold twV
  rw [if_neg (by rintro ⟨q0, q1, q2⟩; rcases h with h | h | h <;> simp_all)]
theorem twV_yes {st : List Int} {vs fs : List ByteArray} {rs : List (ByteArray × Int)} {es1 es2 : List ER} (h0 : st.length ≤ 100) (h : tabB vs fs rs es1 = true) (h2 : tabB vs fs rs es2 = true) : twV st vs fs rs es1 es2 = List.zipWith (wsR st) es1 es2 ∧ (twV st vs fs rs es1 es2).length = es1.length := by
  have e : twV st vs fs rs es1 es2 = List.zipWith (wsR st) es1 es2 := if_pos ⟨h0, h, h2⟩
  refine ⟨e, ?_⟩
  rw [e, List.length_zipWith, (tab_len h).trans (tab_len h2).symm]
  exact Nat.min_self _
set_option maxRecDepth 20000 in
set_option maxHeartbeats 4000000 in
theorem sTableWiden_c (sa : Option Addr) (sc : Nat) (st : List Int) (a1 a2 a3 c1 c2 c3 : Nat) (vs fs : List ByteArray) (rs : List (ByteArray × Int)) (b1 d1 : Nat) (es1 : List ER) (b2 d2 : Nat) (es2 : List ER) (w : World) (hv : Strs w (some ⟨a1, 0, none⟩) vs) (hf : Strs w (some ⟨a2, 0, none⟩) fs) (hr : Arrs w (some ⟨a3, 0, none⟩) rs)
    (hz : ∀ x ∈ namesOf vs fs rs, x.size ≤ 1048576) (hzs : Ints w sa st) (h1 : OwnE w b1 es1) (h2 : OwnE w b2 es2) :
    Calls Tryd.prog 25 #[.agg #[.slice (some ⟨a1, 0, none⟩) vs.length c1, .slice (some ⟨a2, 0, none⟩) fs.length c2, .slice (some ⟨a3, 0, none⟩) rs.length c3], .slice (some ⟨b1, 0, none⟩) es1.length d1, .slice (some ⟨b2, 0, none⟩) es2.length d2, .slice sa st.length sc] w fun e w' => ∃ oc cc ps T, e = .returned (.slice oc (twV st vs fs rs es1 es2).length cc) ∧ RowT w' w.heap.size T oc cc ps (twV st vs fs rs es1 es2) ∧ Below w.heap.size w w' := by
  have HV := hide hv
  have HF := hide hf
  have HR := hide hr
  have HZ := hide hz
  have HZS := hide hzs
  have hl : (st.length : Int) ≤ 1048576 := by have := hzs.1; omega
  have H1 := hide h1
  have H2 := hide h2
  have HB := hide (QD.new w (.slice (some ⟨a1, 0, none⟩) vs.length c1) (.slice (some ⟨a2, 0, none⟩) fs.length c2) (.slice (some ⟨a3, 0, none⟩) rs.length c3) 40)
  clear hv hf hr hz h1 h2 hzs
  go_enter Tryd.func25, Tryd.ntmps25
  go_wp2_with fail
  generalize w.alloc (Obj.cells #[.slice (some ⟨a1, 0, none⟩) vs.length c1, .slice (some ⟨a2, 0, none⟩) fs.length c2, .slice (some ⟨a3, 0, none⟩) rs.length c3] 40) = u at HB ⊢
  refine (sTableOk_c a1 a2 a3 c1 c2 c3 vs fs rs b1 _ es1 _ ((unhide HV).call (unhide HB).2) ((unhide HF).call (unhide HB).2) ((unhide HR).call (unhide HB).2) (unhide HZ) ((unhide H1).call (unhide HB).2)).mono ?_
  rintro e u1 ⟨rfl, kb⟩
  have HB := hide ((unhide HB).call kb)
  clear kb
  have p0 := (unhide HB).1.1
  have p1 := (unhide HB).1.2.1
  have p2 := (unhide HB).1.2.2.1
  cases t1 : tabB vs fs rs es1
  · have HN := hide (twV_no (st := st) (es2 := es2) (.inl t1))
    clear t1
    go_wp2
    go_ret
    exact ⟨none, 0, [], _, by rw [unhide HN]; rfl, by rw [unhide HN]; exact RowT.nil _ _, (unhide HB).2⟩
  have T1 := hide t1
  clear t1
  go_wp2_with fail
  refine (sTableOk_c a1 a2 a3 c1 c2 c3 vs fs rs b2 _ es2 _ ((unhide HV).call (unhide HB).2) ((unhide HF).call (unhide HB).2) ((unhide HR).call (unhide HB).2) (unhide HZ) ((unhide H2).call (unhide HB).2)).mono ?_
  rintro e u2 ⟨rfl, kb⟩
  have HB := hide ((unhide HB).call kb)
  clear kb p0 p1 p2
  cases t2 : tabB vs fs rs es2
  · have HN := hide (twV_no (st := st) (es1 := es1) (.inr (.inl t2)))
    clear t2
    go_wp2
    go_ret
    exact ⟨none, 0, [], _, by rw [unhide HN]; rfl, by rw [unhide HN]; exact RowT.nil _ _, (unhide HB).2⟩
  have T2 := hide t2
  clear t2
  by_cases hm : st.length ≤ 100
  case neg =>
    have HN := hide (twV_no (st := st) (vs := vs) (fs := fs) (rs := rs) (es1 := es1) (es2 := es2) (.inr (.inr hm)))
    have hm' : (100 : Int) < (st.length : Int) := by omega
    clear hm
    go_wp2
    go_ret
    exact ⟨none, 0, [], _, by rw [unhide HN]; rfl, by rw [unhide HN]; exact RowT.nil _ _, (unhide HB).2⟩
  have HN := hide (twV_yes hm (unhide T1) (unhide T2))
  have hm' : ¬ ((100 : Int) < (st.length : Int)) := by omega
  clear hm
  go_wp2_with fail
  refine (l8Widen_c sa sc st vs fs rs b1 _ es1 b2 _ es2 _ ((unhide HZS).call (unhide HB).2) ((unhide H1).call (unhide HB).2) ((unhide H2).call (unhide HB).2) (unhide T1) (unhide T2)).mono ?_
  rintro e u3 ⟨oc, cc, ps, T, rfl, hrt, kb⟩
  have HRT := hide hrt
  have HK := hide ((unhide HB).2.trans (kb.mono (unhide HB).2.size))
  clear hrt kb
  go_wp2
  go_ret
  exact ⟨oc, cc, ps, T, by rw [(unhide HN).2]; rfl, by rw [(unhide HN).1]; exact (unhide HRT).down (unhide HB).2.size, unhide HK⟩
end Go.Proofs.YtcjefmeadnmbhaaDoor

/- Widened tables: the program's closure. -/
namespace Go.Proofs.YtcjefmeadnmbhaaDoor
open Go.RowKit
set_option linter.unusedSimpArgs false
set_option linter.unusedVariables false

theorem wdn_ws {st : List Int} {vs fs : List ByteArray} {rs : List (ByteArray × Int)} {li lj : Bool} {xs ys xs2 ys2 : List (Int × Int)} (hm : st.length ≤ 100) (h : envB vs fs rs li xs ys = true) (h2 : envB vs fs rs lj xs2 ys2 = true) : wdnL st vs fs rs li xs ys lj xs2 ys2 = (li || lj) ∧ wdnV st vs fs rs li xs ys lj xs2 ys2 = wsV st li lj xs ys xs2 ys2 :=
  ⟨(wdn_few hm).1.trans (wid_ws (st := st) h h2).1, (wdn_few hm).2.trans (wid_ws h h2).2⟩
set_option maxRecDepth 20000 in
set_option maxHeartbeats 2000000 in
theorem tw1_c (sb : Nat) (sa : Option Addr) (sc : Nat) (st : List Int) (hm : st.length ≤ 100) (bd a1 a2 a3 c1 c2 c3 : Nat) (vs fs : List ByteArray) (rs : List (ByteArray × Int)) (li : Bool) (e1 e2 d1 d2 : Nat) (xs ys : List (Int × Int)) (lj : Bool) (e3 e4 d3 d4 : Nat) (xs2 ys2 : List (Int × Int)) (w : World) (hst : w.cell? ⟨sb, 0, none⟩ = some (.slice sa st.length sc)) (hzs : Ints w sa st) (hd : C3 w bd (.slice (some ⟨a1, 0, none⟩) vs.length c1) (.slice (some ⟨a2, 0, none⟩) fs.length c2) (.slice (some ⟨a3, 0, none⟩) rs.length c3)) (hw : KW w) (hv : Strs w (some ⟨a1, 0, none⟩) vs) (hf : Strs w (some ⟨a2, 0, none⟩) fs) (hr : Arrs w (some ⟨a3, 0, none⟩) rs)
    (hz : ∀ x ∈ namesOf vs fs rs, x.size ≤ 1048576) (hx : Ivs w (some ⟨e1, 0, none⟩) xs) (hy : Ivs w (some ⟨e2, 0, none⟩) ys) (hx2 : Ivs w (some ⟨e3, 0, none⟩) xs2) (hy2 : Ivs w (some ⟨e4, 0, none⟩) ys2) (h1 : envB vs fs rs li xs ys = true) (h2 : envB vs fs rs lj xs2 ys2 = true) :
    Calls Tryd.prog 62 #[.agg #[.bool li, .slice (some ⟨e1, 0, none⟩) xs.length d1, .slice (some ⟨e2, 0, none⟩) ys.length d2], .agg #[.bool lj, .slice (some ⟨e3, 0, none⟩) xs2.length d3, .slice (some ⟨e4, 0, none⟩) ys2.length d4], .pointer (some ⟨bd, 0, none⟩), .pointer (some ⟨sb, 0, none⟩)] w
    fun e w' => ∃ oa ca ob cb, e = .returned (.agg #[.bool (li || lj), .slice oa (wsV st li lj xs ys xs2 ys2).1.length ca, .slice ob (wsV st li lj xs ys xs2 ys2).2.length cb]) ∧ RowsE w' w.heap.size oa ca ob cb (wsV st li lj xs ys xs2 ys2).1 (wsV st li lj xs ys xs2 ys2).2 ∧ Below w.heap.size w w' := by
  have HD := hide hd
  have HW := hide hw
  have HV := hide hv
  have HF := hide hf
  have HR := hide hr
  have HZ := hide hz
  have HX := hide hx
  have HZS := hide hzs
  have HST := hide hst
  have HY := hide hy
  have HX2 := hide hx2
  have HY2 := hide hy2
  have HJ := hide (wdn_ws hm h1 h2)
  have HB := hide (B3.new w (.bool li) (.slice (some ⟨e1, 0, none⟩) xs.length d1) (.slice (some ⟨e2, 0, none⟩) ys.length d2) (.bool lj) (.slice (some ⟨e3, 0, none⟩) xs2.length d3) (.slice (some ⟨e4, 0, none⟩) ys2.length d4) (.bool false) (.slice none 0 0) (.slice none 0 0) 44 44 44)
  clear hd hw hv hf hr hz hx hy hx2 hy2 h1 h2 hzs hst hm
  have HDU := hide ((unhide HD).call (unhide HB).2.2.2)
  have HSU := hide (((unhide HB).2.2.2.cell (World.block_lt_of_cell? _ _ (unhide HST))).trans (unhide HST))
  go_enter Tryd.func62, Tryd.ntmps62
  go_upto_region 1 with fail
  generalize ((w.alloc (Obj.cells #[.bool li, .slice (some ⟨e1, 0, none⟩) xs.length d1, .slice (some ⟨e2, 0, none⟩) ys.length d2] 44)).alloc (Obj.cells #[.bool lj, .slice (some ⟨e3, 0, none⟩) xs2.length d3, .slice (some ⟨e4, 0, none⟩) ys2.length d4] 44)).alloc (Obj.cells #[.bool false, .slice none 0 0, .slice none 0 0] 44) = u at HB HDU HSU ⊢
  have pst := unhide HSU
  have p0 := (unhide HDU).1
  have p1 := (unhide HDU).2.1
  have p2 := (unhide HDU).2.2.1
  have q0 := (unhide HB).1.1
  have q1 := (unhide HB).1.2.1
  have q2 := (unhide HB).1.2.2.1
  have s0 := (unhide HB).2.1.1
  have s1 := (unhide HB).2.1.2.1
  have s2 := (unhide HB).2.1.2.2.1
  go_wp2_with fail
  refine (iEnvWiden_c a1 a2 a3 c1 c2 c3 vs fs rs li e1 e2 d1 d2 xs ys lj e3 e4 d3 d4 xs2 ys2 sa sc st _ ((unhide HW).call (unhide HB).2.2.2) ((unhide HV).call (unhide HB).2.2.2) ((unhide HF).call (unhide HB).2.2.2) ((unhide HR).call (unhide HB).2.2.2) (unhide HZ) ((unhide HX).call (unhide HB).2.2.2) ((unhide HY).call (unhide HB).2.2.2) ((unhide HX2).call (unhide HB).2.2.2) ((unhide HY2).call (unhide HB).2.2.2) ((unhide HZS).call (unhide HB).2.2.2)).mono ?_
  rw [(unhide HJ).1, (unhide HJ).2]
  rintro e u1 ⟨oa, ca, ob, cb, rfl, hrows, kb⟩
  have z3 : w.heap.size + 2 < u.heap.size := (unhide HB).2.2.1.lt
  have HB := hide ((unhide HB).call kb)
  have HRW := hide hrows
  clear kb hrows p0 p1 p2 q0 q1 q2 s0 s1 s2 HDU HSU pst
  have r0 := (unhide HB).2.2.1.1
  have r1 := (unhide HB).2.2.1.2.1
  have r2 := (unhide HB).2.2.1.2.2.1
  have f0 := (unhide HB).2.2.1.2.2.2 0
  have f1 := (unhide HB).2.2.1.2.2.2 1
  have f2 := (unhide HB).2.2.1.2.2.2 2
  go_wp2
  exact bodyPost_ret (v := .agg #[.bool (li || lj), .slice oa (wsV st li lj xs ys xs2 ys2).1.length ca, .slice ob (wsV st li lj xs ys xs2 ys2).2.length cb]) (by simp [results, Tryd.results62, go_sem, r0, r1, r2]) rfl ⟨oa, ca, ob, cb, rfl, ((((unhide HRW).set (b := w.heap.size + 2) z3).set (b := w.heap.size + 2) z3).set (b := w.heap.size + 2) z3).down (B' := w.heap.size) (by omega), ((((unhide HB).2.2.2.setCell (by first | exact Nat.le_add_right _ _ | (simp; done) | (simp; omega)) _).setCell (by first | exact Nat.le_add_right _ _ | (simp; done) | (simp; omega)) _).setCell (by first | exact Nat.le_add_right _ _ | (simp; done) | (simp; omega)) _)⟩
end Go.Proofs.YtcjefmeadnmbhaaDoor

/- Widened tables: the program's functions. -/
namespace Go.Proofs.YtcjefmeadnmbhaaDoor
open Go.RowKit
set_option linter.unusedSimpArgs false
set_option linter.unusedVariables false

/-- A declaration and a row's place in blocks of the call's own. -/
def QS (w0 : World) (x y z s : Value) (u : World) : Prop := C3 u w0.heap.size x y z ∧ u.cell? ⟨w0.heap.size + 1, 0, none⟩ = some s ∧ Below w0.heap.size w0 u
theorem QS.new (w : World) (x y z s : Value) (t t2 : TypeId) : QS w x y z s ((w.alloc (Obj.cells #[x, y, z] t)).alloc (Obj.cells #[s] t2)) :=
  ⟨(C3.new w x y z t).call ((Below.refl _ _).alloc (Nat.le_refl _) _), by simp [go_sem], ((Below.refl _ _).alloc (Nat.le_refl _) _).alloc (by simp) _⟩
set_option maxRecDepth 20000 in
set_option maxHeartbeats 8000000 in
theorem leafW_c (sb : Nat) (sa : Option Addr) (sc : Nat) (st : List Int) (hm : st.length ≤ 100) (bd : Nat) (a1 a2 a3 c1 c2 c3 : Nat) (vs fs : List ByteArray) (rs : List (ByteArray × Int)) (b1 d1 : Nat) (es1 : List ER) (b2 d2 : Nat) (es2 : List ER) (w : World) (hst : w.cell? ⟨sb, 0, none⟩ = some (.slice sa st.length sc)) (hzs : Ints w sa st) (hd : C3 w bd (.slice (some ⟨a1, 0, none⟩) vs.length c1) (.slice (some ⟨a2, 0, none⟩) fs.length c2) (.slice (some ⟨a3, 0, none⟩) rs.length c3)) (hw : KW w) (hv : Strs w (some ⟨a1, 0, none⟩) vs) (hf : Strs w (some ⟨a2, 0, none⟩) fs) (hr : Arrs w (some ⟨a3, 0, none⟩) rs)
    (hz : ∀ x ∈ namesOf vs fs rs, x.size ≤ 1048576) (h1 : OwnE w b1 es1) (h2 : OwnE w b2 es2) :
    Calls Tryd.prog 54 #[.agg #[.slice (some ⟨a1, 0, none⟩) vs.length c1, .slice (some ⟨a2, 0, none⟩) fs.length c2, .slice (some ⟨a3, 0, none⟩) rs.length c3], .slice (some ⟨b1, 0, none⟩) es1.length d1, .slice (some ⟨b2, 0, none⟩) es2.length d2, .func (.func 62) #[] #[.pointer (some ⟨bd, 0, none⟩), .pointer (some ⟨sb, 0, none⟩)]] w fun e w' => ∃ oc cc ps T, e = .returned (.slice oc (twV st vs fs rs es1 es2).length cc) ∧ RowT w' w.heap.size T oc cc ps (twV st vs fs rs es1 es2) ∧ Below w.heap.size w w' := by
  have HD := hide hd
  have HW := hide hw
  have HV := hide hv
  have HF := hide hf
  have HR := hide hr
  have HZ := hide hz
  have HZS := hide hzs
  have HST := hide hst
  have HM := hide hm
  have H1 := hide h1
  have H2 := hide h2
  have HQ := hide (QD.new w (.slice (some ⟨a1, 0, none⟩) vs.length c1) (.slice (some ⟨a2, 0, none⟩) fs.length c2) (.slice (some ⟨a3, 0, none⟩) rs.length c3) 40)
  clear hd hw hv hf hr hz h1 h2 hzs hst hm
  obtain ⟨inf, hi, hz0, hz1, hz2⟩ := info_parts envInfo
  go_enter Tryd.func54, Tryd.ntmps54
  go_upto_region 1 with fail
  generalize w.alloc (Obj.cells #[.slice (some ⟨a1, 0, none⟩) vs.length c1, .slice (some ⟨a2, 0, none⟩) fs.length c2, .slice (some ⟨a3, 0, none⟩) rs.length c3] 40) = u at HQ ⊢
  have p0 := (unhide HQ).1.1
  have p1 := (unhide HQ).1.2.1
  have p2 := (unhide HQ).1.2.2.1
  go_wp2_with fail
  refine (iTableOk_c a1 a2 a3 c1 c2 c3 vs fs rs b1 _ es1 _ ((unhide HW).call (unhide HQ).2) ((unhide HV).call (unhide HQ).2) ((unhide HF).call (unhide HQ).2) ((unhide HR).call (unhide HQ).2) (unhide HZ) ((unhide H1).call (unhide HQ).2)).mono ?_
  rintro e u1 ⟨rfl, kb⟩
  have HQ := hide ((unhide HQ).call kb)
  clear kb p0 p1 p2
  have p0 := (unhide HQ).1.1
  have p1 := (unhide HQ).1.2.1
  have p2 := (unhide HQ).1.2.2.1
  cases t1 : tabB vs fs rs es1
  · have HN := hide (twV_no (st := st) (es2 := es2) (.inl t1))
    clear t1
    go_wp2
    go_ret
    exact ⟨none, 0, [], _, by rw [unhide HN]; rfl, by rw [unhide HN]; exact RowT.nil _ _, (unhide HQ).2⟩
  have T1 := hide t1
  clear t1
  go_wp2_with fail
  refine (iTableOk_c a1 a2 a3 c1 c2 c3 vs fs rs b2 _ es2 _ ((unhide HW).call (unhide HQ).2) ((unhide HV).call (unhide HQ).2) ((unhide HF).call (unhide HQ).2) ((unhide HR).call (unhide HQ).2) (unhide HZ) ((unhide H2).call (unhide HQ).2)).mono ?_
  rintro e u2 ⟨rfl, kb⟩
  have HQ := hide ((unhide HQ).call kb)
  clear kb p0 p1 p2
  cases t2 : tabB vs fs rs es2
  · have HN := hide (twV_no (st := st) (es1 := es1) (.inr (.inl t2)))
    clear t2
    go_wp2
    go_ret
    exact ⟨none, 0, [], _, by rw [unhide HN]; rfl, by rw [unhide HN]; exact RowT.nil _ _, (unhide HQ).2⟩
  have HN := hide (twV_yes (unhide HM) (unhide T1) t2)
  have T2 := hide t2
  clear t2
  have HLE := hide (show es1.length = es2.length from (tab_len (unhide T1)).trans (tab_len (unhide T2)).symm)
  have HL8 := hide (show es1.length ≤ 8 by
    have t1 := unhide T1
    have e := tab_len t1
    have hd : declB vs fs rs = true := by unfold tabB at t1; rw [Bool.and_eq_true] at t1; exact t1.1
    have l := (declB_len hd).2.1
    rw [e]
    have : 2 ^ fs.length ≤ 2 ^ 3 := Nat.pow_le_pow_right (by decide) l
    omega)
  have hl : (es1.length : Int) ≤ 8 := by have := unhide HL8; omega
  have HK2 := hide (unhide HQ).2
  clear HQ
  go_wp2
  go_loopw [9, 23] (fun l i wr => ∃ (J : List ER) (ps : List PE) (T : Nat) (oc : Option Addr) (cc : Nat), J.length ≤ es1.length ∧ J = (List.zipWith (wsR st) es1 es2).take J.length ∧ i = .int .i64 J.length ∧ l = .slice oc J.length cc ∧ RowT wr w.heap.size T oc cc ps J ∧ Below w.heap.size w wr) (fun _ i _ => es1.length - (intOf i).toNat)
  case atStart => exact ⟨[], [], _, _, _, Nat.zero_le _, by simp, rfl, rfl, RowT.nil _ _, unhide HK2⟩
  case round =>
    obtain ⟨J, ps, T, oc, cc, hJl, hJt, rfl, rfl, hrt, hb⟩ := hrel
    have HRT := hide hrt
    have HB := hide hb
    have HJT := hide hJt
    clear hrt hJt
    by_cases hlt : J.length < es1.length
    · have hlt2 : J.length < es2.length := by rw [← unhide HLE]; exact hlt
      have HJ2 := hide (wsR_take st es1 es2 J.length hlt hlt2)
      obtain ⟨g1, g2, _, _, k1, k2, k3, o1, o2⟩ := (unhide H1).2.1 J.length hlt
      obtain ⟨g3, g4, _, _, k4, k5, k6, o3, o4⟩ := (unhide H2).2.1 J.length hlt2
      have e1 := tab_env (unhide T1) J.length hlt
      have e2 := tab_env (unhide T2) J.length hlt2
      have HO := hide (And.intro o1.1 (And.intro o2.1 (And.intro o3.1 o4.1)))
      have hs := SX.of ⟨k1, k2, k3, k4, k5, k6⟩ hb
      have HE := hide (And.intro e1 e2)
      clear o1 o2 o3 o4 k1 k2 k3 k4 k5 k6 e1 e2 hb
      obtain ⟨p, hp⟩ : ∃ p, p = es1[J.length] := ⟨_, rfl⟩
      obtain ⟨q, hq⟩ : ∃ q, q = es2[J.length] := ⟨_, rfl⟩
      rw [← hp, ← hq] at HJ2 HO hs HE
      clear hp hq
      obtain ⟨pl, px, py⟩ := p
      obtain ⟨ql, qx, qy⟩ := q
      dsimp only at hs HO HE
      have hlt' : (J.length : Int) < (es1.length : Int) := by omega
      have hlt2' : (J.length : Int) < (es2.length : Int) := by omega
      have zw := (unhide HB).size
      go_wp2_with fail
      go_region_held3 (SX w b1 b2 J.length (.bool pl) (.slice (some ⟨g1, 0, none⟩) px.length px.length) (.slice (some ⟨g2, 0, none⟩) py.length py.length) (.bool ql) (.slice (some ⟨g3, 0, none⟩) qx.length qx.length) (.slice (some ⟨g4, 0, none⟩) qy.length qy.length))
        (first | exact hs4 | exact hs2 | exact SX.drew (by assumption) | exact SX.alloc (by assumption) _)
        (first
          | (go_at_call 62; refine (tw1_c sb sa sc st (unhide HM) bd a1 a2 a3 c1 c2 c3 vs fs rs pl g1 g2 _ _ px py ql g3 g4 _ _ qx qy _ (((unhide HB).drew.cell (World.block_lt_of_cell? _ _ (unhide HST))).trans (unhide HST)) ((unhide HZS).call (unhide HB).drew) ((unhide HD).call (unhide HB).drew) ((unhide HW).call (unhide HB).drew) ((unhide HV).call (unhide HB).drew) ((unhide HF).call (unhide HB).drew) ((unhide HR).call (unhide HB).drew) (unhide HZ) ((unhide HO).1.call (unhide HB).drew) ((unhide HO).2.1.call (unhide HB).drew) ((unhide HO).2.2.1.call (unhide HB).drew) ((unhide HO).2.2.2.call (unhide HB).drew) (unhide HE).1 (unhide HE).2).mono ?_; rintro e u4 ⟨oa, ca, ob, cb, rfl, hrows, kb⟩; have hs2 := SX.call kb (SX.drew hs); have kq := (Below.refl wr.heap.size wr).drew.trans kb)
          | (refine step_app2 _ (by rfl) _ _ _ (by rfl) w.heap.size 44 inf (.agg #[.bool false, .slice none 0 0, .slice none 0 0]) 3 56 Tryd.underlying54 hi hz0 hz1 hz2 rfl (by decide) _ _ _ (by rfl) ((((unhide HRT).call kq).2.1).alloc _) ⟨_, 0, none⟩ 1 1 (hdrE ⟨oa, ca, ob, cb, wr.heap.size, u4.heap.size⟩ ((wsR st) (pl, px, py) (ql, qx, qy))) (by rfl) rfl (World.news_of_block (heap_alloc_new _ _)) (hdrE_one _ _) (by unfold maxLen; have := unhide HL8; omega) (by have := unhide HL8; omega) (by have := kq.size; simp; omega) ?_; intro oc' cc' w5 hown hgrow hloc; have hs4 := SX.to hs2 ((hs2.bel.alloc hs2.bel.size _).grown hgrow (by have := kq.size; simp; omega) (fun j hj => (((unhide HRT).call kq).2.1.lt j hj).1))))
      rename_i hHeld
      have HRT5 := hide (((unhide HRT).call kq).snoc (p := ⟨oa, ca, ob, cb, wr.heap.size, u4.heap.size⟩) (e := (wsR st) (pl, px, py) (ql, qx, qy)) (unhide HRT).2.2.2.2.2 (RowsT.of hrows) zw kq.size ((Below.refl _ u4).alloc (Nat.le_refl _) _) hown hgrow hloc)
      have HB5 := hide hs4.bel
      clear hHeld hs hs2 hs4 hown hgrow hloc kq kb hrows HRT HO HE
      go_wp2
      go_roundw
      case rel =>
        have el : (J ++ [(wsR st) (pl, px, py) (ql, qx, qy)]).length = J.length + 1 := by simp
        exact ⟨J ++ [(wsR st) (pl, px, py) (ql, qx, qy)], _, _, oc', cc', by rw [el]; omega, by rw [el, unhide HJ2, ← unhide HJT], by rw [el]; go_num, by rw [el], unhide HRT5, unhide HB5⟩
      case measure => simp [intOf]; omega
    · have ej : J.length = es1.length := by omega
      have HE := hide (show J = List.zipWith (wsR st) es1 es2 by
        have h := unhide HJT
        rw [h, List.take_of_length_le (by rw [List.length_zipWith, ej]; omega)])
      have hlt' : ¬ ((J.length : Int) < (es1.length : Int)) := by omega
      clear hb
      go_wp2
      go_ret
      have a1 := (unhide HN).2
      have a2 : RowT wr w.heap.size T oc cc ps (twV st vs fs rs es1 es2) := by rw [(unhide HN).1, ← unhide HE]; exact unhide HRT
      first
        | exact ⟨oc, cc, ps, T, by rw [a1]; rfl, a2, unhide HB⟩
        | exact ⟨oc, cc, by rw [a1]; rfl, ⟨ps, T, a2⟩, unhide HB⟩
set_option maxRecDepth 20000 in
set_option maxHeartbeats 2000000 in
theorem iTableWiden_c (sa : Option Addr) (sc : Nat) (st : List Int) (a1 a2 a3 c1 c2 c3 : Nat) (vs fs : List ByteArray) (rs : List (ByteArray × Int)) (b1 d1 : Nat) (es1 : List ER) (b2 d2 : Nat) (es2 : List ER) (w : World) (hw : KW w) (hv : Strs w (some ⟨a1, 0, none⟩) vs) (hf : Strs w (some ⟨a2, 0, none⟩) fs) (hr : Arrs w (some ⟨a3, 0, none⟩) rs)
    (hz : ∀ x ∈ namesOf vs fs rs, x.size ≤ 1048576) (hzs : Ints w sa st) (h1 : OwnE w b1 es1) (h2 : OwnE w b2 es2) :
    Calls Tryd.prog 27 #[.agg #[.slice (some ⟨a1, 0, none⟩) vs.length c1, .slice (some ⟨a2, 0, none⟩) fs.length c2, .slice (some ⟨a3, 0, none⟩) rs.length c3], .slice (some ⟨b1, 0, none⟩) es1.length d1, .slice (some ⟨b2, 0, none⟩) es2.length d2, .slice sa st.length sc] w fun e w' => ∃ oc cc ps T, e = .returned (.slice oc (twV st vs fs rs es1 es2).length cc) ∧ RowT w' w.heap.size T oc cc ps (twV st vs fs rs es1 es2) ∧ Below w.heap.size w w' := by
  have hmf : ∀ (fn : Fn) (first cap : Array Value) (w : World), (Instr.makeFunc fn first cap).run Tryd.prog w = .ok (.func fn first cap) w := fun _ _ _ _ => rfl
  have HW := hide hw
  have HV := hide hv
  have HF := hide hf
  have HR := hide hr
  have HZ := hide hz
  have HZS := hide hzs
  have hl : (st.length : Int) ≤ 1048576 := by have := hzs.1; omega
  have H1 := hide h1
  have H2 := hide h2
  have HQ := hide (QS.new w (.slice (some ⟨a1, 0, none⟩) vs.length c1) (.slice (some ⟨a2, 0, none⟩) fs.length c2) (.slice (some ⟨a3, 0, none⟩) rs.length c3) (.slice sa st.length sc) 40 29)
  clear hw hv hf hr hz h1 h2 hzs
  go_enter Tryd.func27, Tryd.ntmps27
  go_upto_region 1 with fail
  generalize (w.alloc (Obj.cells #[.slice (some ⟨a1, 0, none⟩) vs.length c1, .slice (some ⟨a2, 0, none⟩) fs.length c2, .slice (some ⟨a3, 0, none⟩) rs.length c3] 40)).alloc (Obj.cells #[.slice sa st.length sc] 29) = u at HQ ⊢
  have pst := (unhide HQ).2.1
  by_cases hm : st.length ≤ 100
  case neg =>
    have HN := hide (twV_no (st := st) (vs := vs) (fs := fs) (rs := rs) (es1 := es1) (es2 := es2) (.inr (.inr hm)))
    have hm' : (100 : Int) < (st.length : Int) := by omega
    clear hm
    go_wp2
    go_ret
    exact ⟨none, 0, [], _, by rw [unhide HN]; rfl, by rw [unhide HN]; exact RowT.nil _ _, (unhide HQ).2.2⟩
  have hm' : ¬ ((100 : Int) < (st.length : Int)) := by omega
  have p0 := (unhide HQ).1.1
  have p1 := (unhide HQ).1.2.1
  have p2 := (unhide HQ).1.2.2.1
  go_wp2_with fail
  refine (leafW_c (w.heap.size + 1) sa sc st hm w.heap.size a1 a2 a3 c1 c2 c3 vs fs rs b1 _ es1 b2 _ es2 _ (unhide HQ).2.1 ((unhide HZS).call (unhide HQ).2.2) (unhide HQ).1 ((unhide HW).call (unhide HQ).2.2) ((unhide HV).call (unhide HQ).2.2) ((unhide HF).call (unhide HQ).2.2) ((unhide HR).call (unhide HQ).2.2) (unhide HZ) ((unhide H1).call (unhide HQ).2.2) ((unhide H2).call (unhide HQ).2.2)).mono ?_
  rintro e u3 ⟨oc, cc, ps, T, rfl, hrt, kb⟩
  have HRT := hide hrt
  have HK := hide ((unhide HQ).2.2.trans (kb.mono (unhide HQ).2.2.size))
  clear hrt kb p0 p1 p2 hm'
  go_wp2
  go_ret
  exact ⟨oc, cc, ps, T, rfl, (unhide HRT).down (unhide HQ).2.2.size, unhide HK⟩
end Go.Proofs.YtcjefmeadnmbhaaDoor

/- Widened tables are small. -/
namespace Go.Proofs.YtcjefmeadnmbhaaDoor
open Go.RowKit
set_option linter.unusedSimpArgs false
set_option linter.unusedVariables false

theorem wsV_len {st : List Int} {li lj : Bool} {xs ys xs2 ys2 : List (Int × Int)} {M : Nat} (h : xs.length ≤ M ∧ ys.length ≤ M ∧ xs2.length ≤ M ∧ ys2.length ≤ M) : (wsV st li lj xs ys xs2 ys2).1.length ≤ M ∧ (wsV st li lj xs ys xs2 ys2).2.length ≤ M := by
  cases li <;> cases lj <;> simp only [wsV, List.length_zipWith] <;> omega
/-- The widening of tables is small. -/
theorem twV_small (st : List Int) (vs fs : List ByteArray) (rs : List (ByteArray × Int)) (es1 es2 : List ER) : (twV st vs fs rs es1 es2).length ≤ 8 ∧ ∀ i, (h : i < (twV st vs fs rs es1 es2).length) → (twV st vs fs rs es1 es2)[i].2.1.length ≤ 5 ∧ (twV st vs fs rs es1 es2)[i].2.2.length ≤ 5 := by
  by_cases c : st.length ≤ 100 ∧ tabB vs fs rs es1 = true ∧ tabB vs fs rs es2 = true
  · obtain ⟨t0, t1, t2⟩ := c
    obtain ⟨e, el⟩ := twV_yes t0 t1 t2
    have l8 : es1.length ≤ 8 := by
      have e := tab_len t1
      have hd : declB vs fs rs = true := by unfold tabB at t1; rw [Bool.and_eq_true] at t1; exact t1.1
      have l := (declB_len hd).2.1
      rw [e]
      have : 2 ^ fs.length ≤ 2 ^ 3 := Nat.pow_le_pow_right (by decide) l
      omega
    refine ⟨by rw [el]; exact l8, ?_⟩
    rw [e]
    intro i h
    have h1 : i < es1.length := by rw [List.length_zipWith] at h; omega
    have h2 : i < es2.length := by rw [List.length_zipWith] at h; omega
    rw [List.getElem_zipWith]
    have s1 := env_small (tab_env t1 i h1)
    have s2 := env_small (tab_env t2 i h2)
    exact wsV_len ⟨s1.1, by omega, s2.1, by omega⟩
  · have e : twV st vs fs rs es1 es2 = [] := if_neg c
    rw [e]
    exact ⟨by simp, fun i h => absurd h (Nat.not_lt_zero i)⟩
end Go.Proofs.YtcjefmeadnmbhaaDoor

/- Marks in a row of numbers. -/
namespace Go.Proofs.YtcjefmeadnmbhaaDoor
open Go.RowKit
set_option linter.unusedSimpArgs false
set_option linter.unusedVariables false

theorem OwnI.wr {w : World} {b : Nat} {xs : List Int} (h : OwnI w b xs) : Wr w b xs.length := by
  refine ⟨fun o ho => ?_, h.2.1, h.2.2⟩
  rcases h.1.2 with h0 | ⟨cb, co, he, hc⟩
  · omega
  · obtain ⟨rfl, rfl⟩ : b = cb ∧ 0 = co := by injection he with q; injection q with q1 q2; exact ⟨q1, q2⟩
    have := hc o ho
    rw [Nat.zero_add] at this
    exact ⟨_, this⟩
theorem OwnI.mid {w w' : World} {b lo hi : Nat} {xs : List Int} (h : OwnI w b xs) (k : Mid lo hi w w') (ho : b < lo ∨ hi ≤ b) : OwnI w' b xs := by
  refine ⟨⟨h.1.1, ?_⟩, fun o => (k.frozen h.2.2 ho).trans (h.2.1 o), Nat.lt_of_lt_of_le h.2.2 k.size⟩
  rcases h.1.2 with h0 | ⟨cb, co, he, hc⟩
  · exact .inl h0
  · obtain ⟨rfl, rfl⟩ : b = cb ∧ 0 = co := by injection he with q; injection q with q1 q2; exact ⟨q1, q2⟩
    exact .inr ⟨b, 0, rfl, fun i hi => (k.cell h.2.2 ho).trans (hc i hi)⟩
set_option maxHeartbeats 2000000 in
theorem markInt_c (g n c : Nat) (k : Int) (hk : 0 ≤ k ∧ k ≤ 549755813888) (hn : n ≤ 1048576) (w : World) (h : Wr w g n) : Calls Tryd.prog 29 #[.slice (some ⟨g, 0, none⟩) n c, .int .i64 k] w fun e w' => e = .returned (.int .i64 (k + n)) ∧ Mid g (g + 1) w w' := by
  have H0 := hide h
  have hn' : (n : Int) ≤ 1048576 := by omega
  clear h
  go_enter Tryd.func29, Tryd.ntmps29
  go_wp2
  go_loopw [1, 5] (fun kk i wr => ∃ j : Nat, j ≤ n ∧ kk = .int .i64 (k + j) ∧ i = .int .i64 j ∧ Wr wr g n ∧ Mid g (g + 1) w wr) (fun _ i _ => n - (intOf i).toNat)
  case atStart => exact ⟨0, Nat.zero_le _, by simp, rfl, unhide H0, Mid.refl _ _ _⟩
  case round =>
    obtain ⟨j, hj, rfl, rfl, hw, hd⟩ := hrel
    have HW := hide hw
    have HD := hide hd
    by_cases hlt : j < n
    · have e1 : wrap64 (k + ↑j + 1) = k + ↑j + 1 := by unfold wrap64; omega
      have e2 : wrap64 (k + ↑j) = k + ↑j := by unfold wrap64; omega
      obtain ⟨v0, h0⟩ := (unhide HW).1 j hlt
      have f0 := (unhide HW).2.1 j
      clear hw hd
      go_wp2
      go_roundw
      case rel => exact ⟨j + 1, by omega, by first | rfl | (congr 1; omega) | (simp; omega), by go_num, (unhide HW).set _ hlt, (unhide HD).set (Nat.le_refl _) (by omega) _⟩
      case measure => simp [intOf]; omega
    · obtain rfl : n = j := by omega
      clear hw hd
      go_wp2
      go_ret
      exact ⟨rfl, unhide HD⟩
end Go.Proofs.YtcjefmeadnmbhaaDoor

