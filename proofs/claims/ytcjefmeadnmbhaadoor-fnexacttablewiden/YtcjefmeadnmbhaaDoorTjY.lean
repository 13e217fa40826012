/- Texts that go together: TjB, TjC. -/
import Derived.Test.YtcjefmeadnmbhaaDoorTjW
import Derived.Test.YtcjefmeadnmbhaaDoorJoiY
/- Joined tables: the specification's loop. -/
namespace Go.Proofs.YtcjefmeadnmbhaaDoor
open Go.RowKit
set_option linter.unusedSimpArgs false
set_option linter.unusedVariables false

theorem tab_len {vs fs : List ByteArray} {rs : List (ByteArray × Int)} {es : List ER} (h : tabB vs fs rs es = true) : es.length = 2 ^ fs.length := by
  unfold tabB at h
  simp at h
  exact h.2.1
theorem tab_env {vs fs : List ByteArray} {rs : List (ByteArray × Int)} {es : List ER} (h : tabB vs fs rs es = true) (k : Nat) (hk : k < es.length) : envB vs fs rs es[k].1 es[k].2.1 es[k].2.2 = true := by
  unfold tabB at h
  rw [Bool.and_eq_true, Bool.and_eq_true, List.all_eq_true] at h
  have := h.2.2 _ (List.getElem_mem hk)
  unfold envB
  rw [h.1]
  exact this
/-- Two bounds joined. -/
def jsR (p q : ER) : ER := (p.1 || q.1, jsV p.1 q.1 p.2.1 p.2.2 q.2.1 q.2.2)
theorem jsR_take (a b : List ER) (k : Nat) (h1 : k < a.length) (h2 : k < b.length) : (List.zipWith jsR a b).take (k + 1) = (List.zipWith jsR a b).take k ++ [jsR a[k] b[k]] := by
  rw [List.take_succ_eq_append_getElem (by rw [List.length_zipWith]; omega), List.getElem_zipWith]
theorem rowE0 (w : World) (base : Nat) (h : base ≤ w.heap.size) : (w.alloc (Obj.cells #[] 44)).ownsRow base 44 3 (.slice (some ⟨w.heap.size, 0, none⟩) 0 0) 0 [] :=
  ⟨rfl, .inr ⟨w.heap.size, 0, #[], rfl, h, heap_alloc_new w _, Nat.le_refl _, by unfold maxLen; omega, rfl, rfl⟩⟩
theorem RowT.zero (w : World) : RowT (w.alloc (Obj.cells #[] 44)) w.heap.size (w.heap.size + 1) (some ⟨w.heap.size, 0, none⟩) 0 [] [] :=
  ⟨rfl, rowE0 w _ (Nat.le_refl _), fun b h => by have e : w.heap.size = b := Option.some.inj h; omega, (fun i h _ => absurd h (Nat.not_lt_zero i)), List.Pairwise.nil, by simp⟩
/-- Six cells of an older world that stay. -/
@[reducible] def SX (w0 : World) (a b : Nat) (i : Nat) (x y z x1 y1 z1 : Value) (u : World) : Prop := u.cell? ⟨a, i * 3, none⟩ = some x ∧ u.cell? ⟨a, i * 3 + 1, none⟩ = some y ∧ u.cell? ⟨a, i * 3 + 2, none⟩ = some z ∧ u.cell? ⟨b, i * 3, none⟩ = some x1 ∧ u.cell? ⟨b, i * 3 + 1, none⟩ = some y1 ∧ u.cell? ⟨b, i * 3 + 2, none⟩ = some z1 ∧ Hid ((w0.cell? ⟨a, i * 3, none⟩ = some x ∧ w0.cell? ⟨a, i * 3 + 1, none⟩ = some y ∧ w0.cell? ⟨a, i * 3 + 2, none⟩ = some z ∧ w0.cell? ⟨b, i * 3, none⟩ = some x1 ∧ w0.cell? ⟨b, i * 3 + 1, none⟩ = some y1 ∧ w0.cell? ⟨b, i * 3 + 2, none⟩ = some z1) ∧ Below w0.heap.size w0 u)
theorem SX.of {w0 u : World} {a b i : Nat} {x y z x1 y1 z1 : Value} (c : w0.cell? ⟨a, i * 3, none⟩ = some x ∧ w0.cell? ⟨a, i * 3 + 1, none⟩ = some y ∧ w0.cell? ⟨a, i * 3 + 2, none⟩ = some z ∧ w0.cell? ⟨b, i * 3, none⟩ = some x1 ∧ w0.cell? ⟨b, i * 3 + 1, none⟩ = some y1 ∧ w0.cell? ⟨b, i * 3 + 2, none⟩ = some z1) (k : Below w0.heap.size w0 u) : SX w0 a b i x y z x1 y1 z1 u :=
  ⟨(k.cell (World.block_lt_of_cell? _ _ c.1)).trans c.1, (k.cell (World.block_lt_of_cell? _ _ c.2.1)).trans c.2.1, (k.cell (World.block_lt_of_cell? _ _ c.2.2.1)).trans c.2.2.1, (k.cell (World.block_lt_of_cell? _ _ c.2.2.2.1)).trans c.2.2.2.1, (k.cell (World.block_lt_of_cell? _ _ c.2.2.2.2.1)).trans c.2.2.2.2.1, (k.cell (World.block_lt_of_cell? _ _ c.2.2.2.2.2)).trans c.2.2.2.2.2, hide ⟨c, k⟩⟩
theorem SX.bel {w0 u : World} {a b i : Nat} {x y z x1 y1 z1 : Value} (h : SX w0 a b i x y z x1 y1 z1 u) : Below w0.heap.size w0 u := (unhide h.2.2.2.2.2.2).2
theorem SX.to {w0 u v : World} {a b i : Nat} {x y z x1 y1 z1 : Value} (h : SX w0 a b i x y z x1 y1 z1 u) (k : Below w0.heap.size w0 v) : SX w0 a b i x y z x1 y1 z1 v := SX.of (unhide h.2.2.2.2.2.2).1 k
theorem SX.drew {w0 u : World} {a b i : Nat} {x y z x1 y1 z1 : Value} (h : SX w0 a b i x y z x1 y1 z1 u) : SX w0 a b i x y z x1 y1 z1 u.drew := h.to h.bel.drew
theorem SX.alloc {w0 u : World} {a b i : Nat} {x y z x1 y1 z1 : Value} (h : SX w0 a b i x y z x1 y1 z1 u) (o : Obj) : SX w0 a b i x y z x1 y1 z1 (u.alloc o) := h.to (h.bel.alloc h.bel.size o)
theorem SX.call {w0 u v : World} {a b i : Nat} {x y z x1 y1 z1 : Value} (kb : Below u.heap.size u v) (h : SX w0 a b i x y z x1 y1 z1 u) : SX w0 a b i x y z x1 y1 z1 v := h.to (h.bel.trans (kb.mono h.bel.size))
theorem hdrE_one (p : PE) (e : ER) : ∀ u ∈ hdrE p e, u.oneCell' = true := by
  intro u hu
  simp [hdrE] at hu
  rcases hu with rfl | rfl | rfl <;> rfl
set_option maxRecDepth 20000 in
set_option maxHeartbeats 8000000 in
theorem l8Join_c (vs fs : List ByteArray) (rs : List (ByteArray × Int)) (b1 d1 : Nat) (es1 : List ER) (b2 d2 : Nat) (es2 : List ER) (w : World) (h1 : OwnE w b1 es1) (h2 : OwnE w b2 es2) (t1 : tabB vs fs rs es1 = true) (t2 : tabB vs fs rs es2 = true) :
    Calls Tryd.prog 53 #[.slice (some ⟨b1, 0, none⟩) es1.length d1, .slice (some ⟨b2, 0, none⟩) es2.length d2] w fun e w' => ∃ oc cc ps T, e = .returned (.slice oc es1.length cc) ∧ RowT w' w.heap.size T oc cc ps (List.zipWith jsR es1 es2) ∧ Below w.heap.size w w' := by
  have H1 := hide h1
  have H2 := hide h2
  have HT := hide (And.intro t1 t2)
  have HLE := hide (show es1.length = es2.length from (tab_len t1).trans (tab_len t2).symm)
  have HL8 := hide (show es1.length ≤ 8 by
    have e := tab_len t1
    have hd : declB vs fs rs = true := by unfold tabB at t1; rw [Bool.and_eq_true] at t1; exact t1.1
    have l := (declB_len hd).2.1
    rw [e]
    have : 2 ^ fs.length ≤ 2 ^ 3 := Nat.pow_le_pow_right (by decide) l
    omega)
  have hl : (es1.length : Int) ≤ 8 := by have := unhide HL8; omega
  clear h1 h2 t1 t2
  obtain ⟨inf, hi, hz0, hz1, hz2⟩ := info_parts envInfo
  go_enter Tryd.func53, Tryd.ntmps53
  go_wp2
  go_loopw [5, 6] (fun l i wr => ∃ (J : List ER) (ps : List PE) (T : Nat) (oc : Option Addr) (cc : Nat), J.length ≤ es1.length ∧ J = (List.zipWith jsR es1 es2).take J.length ∧ i = .int .i64 J.length ∧ l = .slice oc J.length cc ∧ RowT wr w.heap.size T oc cc ps J ∧ Below w.heap.size w wr) (fun _ i _ => es1.length - (intOf i).toNat)
  case atStart => exact ⟨[], [], _, _, _, Nat.zero_le _, by simp, rfl, rfl, RowT.zero w, (Below.refl _ _).alloc (Nat.le_refl _) _⟩
  case round =>
    obtain ⟨J, ps, T, oc, cc, hJl, hJt, rfl, rfl, hrt, hb⟩ := hrel
    have HRT := hide hrt
    have HB := hide hb
    have HJT := hide hJt
    clear hrt hJt
    by_cases hlt : J.length < es1.length
    · have hlt2 : J.length < es2.length := by rw [← unhide HLE]; exact hlt
      have HJ2 := hide (jsR_take es1 es2 J.length hlt hlt2)
      obtain ⟨g1, g2, _, _, c1, c2, c3, o1, o2⟩ := (unhide H1).2.1 J.length hlt
      obtain ⟨g3, g4, _, _, c4, c5, c6, o3, o4⟩ := (unhide H2).2.1 J.length hlt2
      have e1 := tab_env (unhide HT).1 J.length hlt
      have e2 := tab_env (unhide HT).2 J.length hlt2
      have HO := hide (And.intro o1.1 (And.intro o2.1 (And.intro o3.1 o4.1)))
      have hs := SX.of ⟨c1, c2, c3, c4, c5, c6⟩ hb
      have HS0 := hide (And.intro (env_small e1) (env_small e2))
      have HS1 := hide (env_lens e1 e2)
      clear o1 o2 o3 o4 c1 c2 c3 c4 c5 c6 e1 e2 hb
      obtain ⟨p, hp⟩ : ∃ p, p = es1[J.length] := ⟨_, rfl⟩
      obtain ⟨q, hq⟩ : ∃ q, q = es2[J.length] := ⟨_, rfl⟩
      rw [← hp, ← hq] at HJ2 HO hs HS0 HS1
      clear hp hq
      obtain ⟨pl, px, py⟩ := p
      obtain ⟨ql, qx, qy⟩ := q
      dsimp only at hs HO HS0 HS1
      have hlt' : (J.length : Int) < (es1.length : Int) := by omega
      have hlt2' : (J.length : Int) < (es2.length : Int) := by omega
      have zw := (unhide HB).size
      go_wp2_with fail
      go_region_held3 (SX w b1 b2 J.length (.bool pl) (.slice (some ⟨g1, 0, none⟩) px.length px.length) (.slice (some ⟨g2, 0, none⟩) py.length py.length) (.bool ql) (.slice (some ⟨g3, 0, none⟩) qx.length qx.length) (.slice (some ⟨g4, 0, none⟩) qy.length qy.length))
        (first | exact hs4 | exact hs2 | exact SX.drew (by assumption) | exact SX.alloc (by assumption) _)
        (first
          | (go_at_call 77; refine (l6Join_c pl g1 g2 _ _ px py ql g3 g4 _ _ qx qy _ ((unhide HO).1.call (unhide HB).drew) ((unhide HO).2.1.call (unhide HB).drew) ((unhide HO).2.2.1.call (unhide HB).drew) ((unhide HO).2.2.2.call (unhide HB).drew) (by have := unhide HS0; omega) (fun a b => (unhide HS1) a b)).mono ?_; rintro e u4 ⟨oa, ca, ob, cb, rfl, hrows, kb⟩; have hs2 := SX.call kb (SX.drew hs); have kq := (Below.refl wr.heap.size wr).drew.trans kb)
          | (refine step_app2 _ (by rfl) _ _ _ (by rfl) w.heap.size 44 inf (.agg #[.bool false, .slice none 0 0, .slice none 0 0]) 3 56 Tryd.underlying54 hi hz0 hz1 hz2 rfl (by decide) _ _ _ (by rfl) ((((unhide HRT).call kq).2.1).alloc _) ⟨_, 0, none⟩ 1 1 (hdrE ⟨oa, ca, ob, cb, wr.heap.size, u4.heap.size⟩ (jsR (pl, px, py) (ql, qx, qy))) (by rfl) rfl (World.news_of_block (heap_alloc_new _ _)) (hdrE_one _ _) (by unfold maxLen; have := unhide HL8; omega) (by have := unhide HL8; omega) (by have := kq.size; simp; omega) ?_; intro oc' cc' w5 hown hgrow hloc; have hs4 := SX.to hs2 ((hs2.bel.alloc hs2.bel.size _).grown hgrow (by have := kq.size; simp; omega) (fun j hj => (((unhide HRT).call kq).2.1.lt j hj).1))))
      rename_i hHeld
      have HRT5 := hide (((unhide HRT).call kq).snoc (p := ⟨oa, ca, ob, cb, wr.heap.size, u4.heap.size⟩) (e := jsR (pl, px, py) (ql, qx, qy)) (unhide HRT).2.2.2.2.2 (RowsT.of hrows) zw kq.size ((Below.refl _ u4).alloc (Nat.le_refl _) _) hown hgrow hloc)
      have HB5 := hide hs4.bel
      clear hHeld hs hs2 hs4 hown hgrow hloc kq kb hrows HRT HO HS0 HS1
      go_wp2
      go_roundw
      case rel =>
        have el : (J ++ [jsR (pl, px, py) (ql, qx, qy)]).length = J.length + 1 := by simp
        exact ⟨J ++ [jsR (pl, px, py) (ql, qx, qy)], _, _, oc', cc', by rw [el]; omega, by rw [el, unhide HJ2, ← unhide HJT], by rw [el]; go_num, by rw [el], unhide HRT5, unhide HB5⟩
      case measure => simp [intOf]; omega
    · have ej : J.length = es1.length := by omega
      have HE := hide (show J = List.zipWith jsR es1 es2 by
        have h := unhide HJT
        rw [h, List.take_of_length_le (by rw [List.length_zipWith, ej]; omega)])
      have hlt' : ¬ ((J.length : Int) < (es1.length : Int)) := by omega
      clear hb
      go_wp2
      go_ret
      exact ⟨oc, cc, by rw [← ej]; rfl, ⟨ps, T, by rw [← unhide HE]; exact unhide HRT⟩, unhide HB⟩
end Go.Proofs.YtcjefmeadnmbhaaDoor

/- Joined tables: both functions. -/
namespace Go.Proofs.YtcjefmeadnmbhaaDoor
open Go.RowKit
set_option linter.unusedSimpArgs false
set_option linter.unusedVariables false

/-- What the join of tables is. -/
def tjV (vs fs : List ByteArray) (rs : List (ByteArray × Int)) (es1 es2 : List ER) : List ER := if tabB vs fs rs es1 = true ∧ tabB vs fs rs es2 = true then List.zipWith jsR es1 es2 else []
theorem tjV_no {vs fs : List ByteArray} {rs : List (ByteArray × Int)} {es1 es2 : List ER} (h : tabB vs fs rs es1 = false ∨ tabB vs fs rs es2 = false) : tjV vs fs rs es1 es2 = [] := by
  unfold tjV
  rw [if_neg (by rintro ⟨q1, q2⟩; rcases h with h | h <;> simp_all)]
theorem tjV_yes {vs fs : List ByteArray} {rs : List (ByteArray × Int)} {es1 es2 : List ER} (h : tabB vs fs rs es1 = true) (h2 : tabB vs fs rs es2 = true) : tjV vs fs rs es1 es2 = List.zipWith jsR es1 es2 ∧ (tjV vs fs rs es1 es2).length = es1.length := by
  have e : tjV vs fs rs es1 es2 = List.zipWith jsR es1 es2 := if_pos ⟨h, h2⟩
  refine ⟨e, ?_⟩
  rw [e, List.length_zipWith, (tab_len h).trans (tab_len h2).symm]
  exact Nat.min_self _
/-- A declaration in a block of the call's own. -/
def QD (w0 : World) (x y z : Value) (u : World) : Prop := C3 u w0.heap.size x y z ∧ Below w0.heap.size w0 u
theorem QD.call {w0 u v : World} {x y z : Value} (h : QD w0 x y z u) (hb : Below u.heap.size u v) : QD w0 x y z v := ⟨h.1.call hb, h.2.trans (hb.mono h.2.size)⟩
theorem QD.new (w : World) (x y z : Value) (t : TypeId) : QD w x y z (w.alloc (Obj.cells #[x, y, z] t)) := ⟨C3.new w x y z t, (Below.refl _ _).alloc (Nat.le_refl _) _⟩
set_option maxRecDepth 20000 in
set_option maxHeartbeats 4000000 in
theorem sTableJoin_c (a1 a2 a3 c1 c2 c3 : Nat) (vs fs : List ByteArray) (rs : List (ByteArray × Int)) (b1 d1 : Nat) (es1 : List ER) (b2 d2 : Nat) (es2 : List ER) (w : World) (hv : Strs w (some ⟨a1, 0, none⟩) vs) (hf : Strs w (some ⟨a2, 0, none⟩) fs) (hr : Arrs w (some ⟨a3, 0, none⟩) rs)
    (hz : ∀ x ∈ namesOf vs fs rs, x.size ≤ 1048576) (h1 : OwnE w b1 es1) (h2 : OwnE w b2 es2) :
    Calls Tryd.prog 18 #[.agg #[.slice (some ⟨a1, 0, none⟩) vs.length c1, .slice (some ⟨a2, 0, none⟩) fs.length c2, .slice (some ⟨a3, 0, none⟩) rs.length c3], .slice (some ⟨b1, 0, none⟩) es1.length d1, .slice (some ⟨b2, 0, none⟩) es2.length d2] w fun e w' => ∃ oc cc ps T, e = .returned (.slice oc (tjV vs fs rs es1 es2).length cc) ∧ RowT w' w.heap.size T oc cc ps (tjV vs fs rs es1 es2) ∧ Below w.heap.size w w' := by
  have HV := hide hv
  have HF := hide hf
  have HR := hide hr
  have HZ := hide hz
  have H1 := hide h1
  have H2 := hide h2
  have HB := hide (QD.new w (.slice (some ⟨a1, 0, none⟩) vs.length c1) (.slice (some ⟨a2, 0, none⟩) fs.length c2) (.slice (some ⟨a3, 0, none⟩) rs.length c3) 40)
  clear hv hf hr hz h1 h2
  go_enter Tryd.func18, Tryd.ntmps18
  go_wp2_with fail
  generalize w.alloc (Obj.cells #[.slice (some ⟨a1, 0, none⟩) vs.length c1, .slice (some ⟨a2, 0, none⟩) fs.length c2, .slice (some ⟨a3, 0, none⟩) rs.length c3] 40) = u at HB ⊢
  refine (sTableOk_c a1 a2 a3 c1 c2 c3 vs fs rs b1 _ es1 _ ((unhide HV).call (unhide HB).2) ((unhide HF).call (unhide HB).2) ((unhide HR).call (unhide HB).2) (unhide HZ) ((unhide H1).call (unhide HB).2)).mono ?_
  rintro e u1 ⟨rfl, kb⟩
  have HB := hide ((unhide HB).call kb)
  clear kb
  have p0 := (unhide HB).1.1
  have p1 := (unhide HB).1.2.1
  have p2 := (unhide HB).1.2.2.1
  cases t1 : tabB vs fs rs es1
  · have HN := hide (tjV_no (es2 := es2) (.inl t1))
    clear t1
    go_wp2
    go_ret
    exact ⟨none, 0, [], _, by rw [unhide HN]; rfl, by rw [unhide HN]; exact RowT.nil _ _, (unhide HB).2⟩
  have T1 := hide t1
  clear t1
  go_wp2_with fail
  refine (sTableOk_c a1 a2 a3 c1 c2 c3 vs fs rs b2 _ es2 _ ((unhide HV).call (unhide HB).2) ((unhide HF).call (unhide HB).2) ((unhide HR).call (unhide HB).2) (unhide HZ) ((unhide H2).call (unhide HB).2)).mono ?_
  rintro e u2 ⟨rfl, kb⟩
  have HB := hide ((unhide HB).call kb)
  clear kb p0 p1 p2
  cases t2 : tabB vs fs rs es2
  · have HN := hide (tjV_no (es1 := es1) (.inr t2))
    clear t2
    go_wp2
    go_ret
    exact ⟨none, 0, [], _, by rw [unhide HN]; rfl, by rw [unhide HN]; exact RowT.nil _ _, (unhide HB).2⟩
  have HN := hide (tjV_yes (unhide T1) t2)
  have T2 := hide t2
  clear t2
  go_wp2_with fail
  refine (l8Join_c vs fs rs b1 _ es1 b2 _ es2 _ ((unhide H1).call (unhide HB).2) ((unhide H2).call (unhide HB).2) (unhide T1) (unhide T2)).mono ?_
  rintro e u3 ⟨oc, cc, ps, T, rfl, hrt, kb⟩
  have HRT := hide hrt
  have HK := hide ((unhide HB).2.trans (kb.mono (unhide HB).2.size))
  clear hrt kb
  go_wp2
  go_ret
  exact ⟨oc, cc, ps, T, by rw [(unhide HN).2]; rfl, by rw [(unhide HN).1]; exact (unhide HRT).down (unhide HB).2.size, unhide HK⟩
end Go.Proofs.YtcjefmeadnmbhaaDoor

