/- Texts that go together: JoiC, JoiD, JoiE. -/
import Derived.Test.YtpdnnpnclgcpoaaDoorSiZ
/- Rows that are written interval by interval through pointers; joined bounds. -/
namespace Go.Proofs.YtpdnnpnclgcpoaaDoor
open Go.RowKit
set_option linter.unusedSimpArgs false
set_option linter.unusedVariables false

def jn (p q : Int × Int) : Int × Int := (joinL p.1 p.2 q.1 q.2, joinH p.1 p.2 q.1 q.2)
/-- The first k are joined. -/
def upd (Z T : List (Int × Int)) (k : Nat) : List (Int × Int) := (List.zipWith jn Z T).take k ++ Z.drop k
theorem upd_len (Z T : List (Int × Int)) (k : Nat) (h : Z.length = T.length) (hk : k ≤ Z.length) : (upd Z T k).length = Z.length := by
  unfold upd
  simp
  omega
theorem upd_zero (Z T : List (Int × Int)) : upd Z T 0 = Z := by simp [upd]
theorem upd_all (Z T : List (Int × Int)) (h : Z.length = T.length) : upd Z T Z.length = List.zipWith jn Z T := by
  unfold upd
  rw [List.drop_length, List.append_nil, List.take_of_length_le (by simp; omega)]
theorem upd_get (Z T : List (Int × Int)) (k i : Nat) (h : Z.length = T.length) (hk : k ≤ Z.length) (hi : i < Z.length) : (upd Z T k)[i]? = some (if i < k then jn Z[i] (T[i]'(by omega)) else Z[i]) := by
  have hz : (List.zipWith jn Z T).length = Z.length := by simp; omega
  have ht : ((List.zipWith jn Z T).take k).length = k := by rw [List.length_take, hz]; omega
  unfold upd
  by_cases c : i < k
  · rw [List.getElem?_append_left (by rw [ht]; exact c), List.getElem?_take_of_lt c, if_pos c, List.getElem?_eq_getElem (by rw [hz]; exact hi), List.getElem_zipWith]
  · rw [List.getElem?_append_right (by rw [ht]; omega), ht, List.getElem?_drop, if_neg c, show k + (i - k) = i by omega, List.getElem?_eq_getElem hi]
theorem upd_at (Z T : List (Int × Int)) (k : Nat) (h : Z.length = T.length) (hk : k < Z.length) : (upd Z T k)[k]'(by rw [upd_len Z T k h (by omega)]; exact hk) = Z[k] := by
  have q := upd_get Z T k k h (by omega) hk
  rw [List.getElem?_eq_getElem (by rw [upd_len Z T k h (by omega)]; exact hk), if_neg (by omega)] at q
  exact Option.some.inj q
theorem upd_set (Z T : List (Int × Int)) (k : Nat) (h : Z.length = T.length) (hk : k < Z.length) : (upd Z T k).set k (jn Z[k] (T[k]'(by omega))) = upd Z T (k + 1) := by
  have hl : (upd Z T k).length = Z.length := upd_len Z T k h (by omega)
  have hl2 : (upd Z T (k + 1)).length = Z.length := upd_len Z T (k + 1) h (by omega)
  apply List.ext_getElem?
  intro i
  by_cases hi : i < Z.length
  · rw [List.getElem?_set, upd_get Z T (k + 1) i h (by omega) hi, upd_get Z T k i h (by omega) hi]
    by_cases e : k = i
    · subst e
      rw [if_pos rfl, if_pos (by rw [hl]; exact hk), if_pos (by omega)]
    · rw [if_neg e]
      by_cases c : i < k
      · rw [if_pos c, if_pos (by omega)]
      · rw [if_neg c, if_neg (by omega)]
  · rw [List.getElem?_eq_none (by rw [List.length_set, hl]; omega), List.getElem?_eq_none (by rw [hl2]; omega)]
/-- One interval of the rows is written, through its pointer. -/
theorem RowsE.writeAt {w : World} {B ca cb g1 g2 : Nat} {oa ob : Option Addr} {xs ys : List (Int × Int)} (h : RowsE w B oa ca ob cb xs ys) (h1 : xs.length = 0 ∨ oa = some ⟨g1, 0, none⟩) (h2 : ys.length = 0 ∨ ob = some ⟨g2, 0, none⟩) (k : Nat) (hk : k < (xs ++ ys).length) (p : Int × Int) :
    ∃ pb po, (ptrsB g1 xs.length ++ ptrsB g2 ys.length)[k]? = some ⟨pb, po, none⟩ ∧ (oa = some ⟨pb, 0, none⟩ ∨ ob = some ⟨pb, 0, none⟩) ∧ B ≤ pb ∧ pb < w.heap.size ∧ w.cell? ⟨pb, po, none⟩ = some (.int .i64 (xs ++ ys)[k].1) ∧ w.cell? ⟨pb, po + 1, none⟩ = some (.int .i64 (xs ++ ys)[k].2) ∧ (∀ o, w.frozen? ⟨pb, o, none⟩ = false) ∧
      ∃ xs' ys' : List (Int × Int), xs'.length = xs.length ∧ ys'.length = ys.length ∧ xs' ++ ys' = (xs ++ ys).set k p ∧ RowsE ((w.setCell ⟨pb, po, none⟩ (.int .i64 p.1)).setCell ⟨pb, po + 1, none⟩ (.int .i64 p.2)) B oa ca ob cb xs' ys' := by
  rw [List.length_append] at hk
  by_cases hx : k < xs.length
  · rcases h1 with h0 | h1
    · omega
    obtain ⟨g, hg, hB, hs, _, hf, hw⟩ := h.write hx p
    rw [h1] at hg
    obtain rfl : g1 = g := by injection hg with q; injection q
    have d := cellsV_at xs k hx
    subst h1
    have k1 := h.1.cellAt (k * 2) (by omega)
    have k2 := h.1.cellAt (k * 2 + 1) (by omega)
    rw [d.1] at k1
    rw [d.2] at k2
    refine ⟨g1, k * 2, ?_, .inl rfl, hB, hs, ?_, ?_, hf, xs.set k p, ys, by simp, rfl, ?_, hw⟩
    · rw [List.getElem?_append_left (by rw [ptrsB_len]; exact hx)]
      simp [ptrsB, hx]
    · rw [k1, List.getElem_append_left hx]
    · rw [k2, List.getElem_append_left hx]
    · rw [List.set_append_left _ _ hx]
  · rcases h2 with h0 | h2
    · omega
    have hy : k - xs.length < ys.length := by omega
    obtain ⟨g, hg, hB, hs, _, hf, hw⟩ := h.swap.write hy p
    rw [h2] at hg
    obtain rfl : g2 = g := by injection hg with q; injection q
    have d := cellsV_at ys (k - xs.length) hy
    subst h2
    have k1 := h.2.1.cellAt ((k - xs.length) * 2) (by omega)
    have k2 := h.2.1.cellAt ((k - xs.length) * 2 + 1) (by omega)
    rw [d.1] at k1
    rw [d.2] at k2
    refine ⟨g2, (k - xs.length) * 2, ?_, .inr rfl, hB, hs, ?_, ?_, hf, xs, ys.set (k - xs.length) p, rfl, by simp, ?_, hw.swap⟩
    · rw [List.getElem?_append_right (by rw [ptrsB_len]; omega), ptrsB_len]
      simp [ptrsB, hy]
    · rw [k1, List.getElem_append_right (by omega)]
    · rw [k2, List.getElem_append_right (by omega)]
    · rw [List.set_append_right _ _ (by omega)]
end Go.Proofs.YtpdnnpnclgcpoaaDoor

/- Joined bounds, as the program makes them. -/
namespace Go.Proofs.YtpdnnpnclgcpoaaDoor
open Go.RowKit
set_option linter.unusedSimpArgs false
set_option linter.unusedVariables false

theorem rows_nil (w : World) (B : Nat) : RowsE w B none 0 none 0 [] [] := ⟨World.ownsRow_nil _ _ _ _, World.ownsRow_nil _ _ _ _, fun x y h => by cases h⟩
/-- Three structs of three cells, and one that is zero. -/
def Q5 (w0 : World) (x0 y0 z0 x1 y1 z1 x2 y2 z2 : Value) (u : World) : Prop := B3 w0 w0.heap.size x0 y0 z0 x1 y1 z1 x2 y2 z2 u ∧ C3 u (w0.heap.size + 3) (.bool false) (.slice none 0 0) (.slice none 0 0)
theorem Q5.call {w0 u v : World} {x0 y0 z0 x1 y1 z1 x2 y2 z2 : Value} (h : Q5 w0 x0 y0 z0 x1 y1 z1 x2 y2 z2 u) (hb : Below u.heap.size u v) : Q5 w0 x0 y0 z0 x1 y1 z1 x2 y2 z2 v := ⟨h.1.call hb, h.2.call hb⟩
theorem Q5.bel {w0 u : World} {x0 y0 z0 x1 y1 z1 x2 y2 z2 : Value} (h : Q5 w0 x0 y0 z0 x1 y1 z1 x2 y2 z2 u) : Below w0.heap.size w0 u := h.1.2.2.2
theorem Q5.new (w : World) (x0 y0 z0 x1 y1 z1 x2 y2 z2 : Value) (t0 t1 t2 t3 : TypeId) : Q5 w x0 y0 z0 x1 y1 z1 x2 y2 z2 ((((w.alloc (Obj.cells #[x0, y0, z0] t0)).alloc (Obj.cells #[x1, y1, z1] t1)).alloc (Obj.cells #[x2, y2, z2] t2)).alloc (Obj.cells #[.bool false, .slice none 0 0, .slice none 0 0] t3)) := by
  have h := B3.new w x0 y0 z0 x1 y1 z1 x2 y2 z2 t0 t1 t2
  have k := C3.new (((w.alloc (Obj.cells #[x0, y0, z0] t0)).alloc (Obj.cells #[x1, y1, z1] t1)).alloc (Obj.cells #[x2, y2, z2] t2)) (.bool false) (.slice none 0 0) (.slice none 0 0) t3
  rw [show (((w.alloc (Obj.cells #[x0, y0, z0] t0)).alloc (Obj.cells #[x1, y1, z1] t1)).alloc (Obj.cells #[x2, y2, z2] t2)).heap.size = w.heap.size + 3 by simp] at k
  exact ⟨h.call ((Below.refl _ _).alloc (Nat.le_refl _) _), k⟩
/-- What the join of bounds is. -/
def joiL (vs fs : List ByteArray) (rs : List (ByteArray × Int)) (li : Bool) (xs ys : List (Int × Int)) (lj : Bool) (xs2 ys2 : List (Int × Int)) : Bool := envB vs fs rs li xs ys && (envB vs fs rs lj xs2 ys2 && (li || lj))
def joiV (vs fs : List ByteArray) (rs : List (ByteArray × Int)) (li : Bool) (xs ys : List (Int × Int)) (lj : Bool) (xs2 ys2 : List (Int × Int)) : List (Int × Int) × List (Int × Int) :=
  if envB vs fs rs li xs ys = true ∧ envB vs fs rs lj xs2 ys2 = true then (if li = true then (if lj = true then (List.zipWith jn xs xs2, List.zipWith jn ys ys2) else (xs, ys)) else (xs2, ys2)) else ([], [])
theorem bel_dr {u v : World} (h : Below u.drew.heap.size u.drew v) : Below u.heap.size u v := ((Below.refl _ u).drew).trans h
/-- What is left when one interval is written through its pointer, behind a call. -/
theorem join_step {w wr w1 : World} {B X L pc qc ca cb g1 g2 k pb po : Nat} {oa ob pa qa : Option Addr} {xs' ys' : List (Int × Int)} {P1 P2 : List Value} {x y z : Value} (hb : Below wr.heap.size wr w1) (hrw : RowsE wr B oa ca ob cb xs' ys') (h1 : xs'.length = 0 ∨ oa = some ⟨g1, 0, none⟩) (h2 : ys'.length = 0 ∨ ob = some ⟨g2, 0, none⟩) (hk : k < (xs' ++ ys').length)
    (hp : (ptrsB g1 xs'.length ++ ptrsB g2 ys'.length)[k]? = some ⟨pb, po, none⟩) (v : Int × Int) (ho : wr.ownsRow (X + 1) 119 1 (.slice pa L pc) L P1) (ho2 : wr.ownsRow (X + 1) 119 1 (.slice qa L qc) L P2) (he : C3 wr X x y z) (hc : C3 wr (w.heap.size + 3) (.bool false) (.slice none 0 0) (.slice none 0 0)) (hbl : Below w.heap.size w wr) (hX : pb < X) (hB : w.heap.size + 3 < pb) :
    (∃ v0 v1, w1.cell? ⟨pb, po, none⟩ = some v0 ∧ w1.cell? ⟨pb, po + 1, none⟩ = some v1) ∧ (∀ o, w1.frozen? ⟨pb, o, none⟩ = false) ∧ ∃ xs'' ys'' : List (Int × Int), xs''.length = xs'.length ∧ ys''.length = ys'.length ∧ xs'' ++ ys'' = (xs' ++ ys').set k v ∧ RowsE ((w1.setCell ⟨pb, po, none⟩ (.int .i64 v.1)).setCell ⟨pb, po + 1, none⟩ (.int .i64 v.2)) B oa ca ob cb xs'' ys'' ∧
      ((w1.setCell ⟨pb, po, none⟩ (.int .i64 v.1)).setCell ⟨pb, po + 1, none⟩ (.int .i64 v.2)).ownsRow (X + 1) 119 1 (.slice pa L pc) L P1 ∧ ((w1.setCell ⟨pb, po, none⟩ (.int .i64 v.1)).setCell ⟨pb, po + 1, none⟩ (.int .i64 v.2)).ownsRow (X + 1) 119 1 (.slice qa L qc) L P2 ∧
      C3 ((w1.setCell ⟨pb, po, none⟩ (.int .i64 v.1)).setCell ⟨pb, po + 1, none⟩ (.int .i64 v.2)) X x y z ∧ C3 ((w1.setCell ⟨pb, po, none⟩ (.int .i64 v.1)).setCell ⟨pb, po + 1, none⟩ (.int .i64 v.2)) (w.heap.size + 3) (.bool false) (.slice none 0 0) (.slice none 0 0) ∧ Below w.heap.size w ((w1.setCell ⟨pb, po, none⟩ (.int .i64 v.1)).setCell ⟨pb, po + 1, none⟩ (.int .i64 v.2)) := by
  obtain ⟨pb', po', hp', _, _, _, t0, t1, tf, xs'', ys'', l1, l2, e, r⟩ := (hrw.call hb).writeAt h1 h2 k hk v
  rw [hp] at hp'
  obtain ⟨rfl, rfl⟩ : pb = pb' ∧ po = po' := by injection hp' with q; injection q with q1 q2; exact ⟨q1, q2⟩
  exact ⟨⟨_, _, t0, t1⟩, tf, xs'', ys'', l1, l2, e, r, own_set (own_set (own_call ho hb) (by omega)) (by omega), own_set (own_set (own_call ho2 hb) (by omega)) (by omega), ((he.call hb).other (by omega)).other (by omega), ((hc.call hb).other (by omega)).other (by omega), ((hbl.trans (hb.mono hbl.size)).setCell (by show w.heap.size ≤ pb; omega) _).setCell (by show w.heap.size ≤ pb; omega) _⟩
theorem env_small {vs fs : List ByteArray} {rs : List (ByteArray × Int)} {li : Bool} {xs ys : List (Int × Int)} (h : envB vs fs rs li xs ys = true) : xs.length ≤ 5 ∧ ys.length ≤ 2 ∧ (li = false → xs.length = 0 ∧ ys.length = 0) := by
  unfold envB at h
  rw [Bool.and_eq_true] at h
  have h1 := declB_len h.1
  have h2 := of_decide_eq_true h.2
  rcases h2 with ⟨h3, h4, h5⟩ | ⟨h3, h4, h5, _⟩
  · exact ⟨by omega, by omega, fun _ => ⟨h4, h5⟩⟩
  · exact ⟨by omega, by omega, fun e => by rw [e] at h3; cases h3⟩
set_option maxRecDepth 20000 in
set_option maxHeartbeats 4000000 in
theorem joinedBy_c (a1 a2 a3 : Option Addr) (c1 c2 c3 : Nat) (vs fs : List ByteArray) (rs : List (ByteArray × Int)) (li : Bool) (e1 e2 : Option Addr) (d1 d2 : Nat) (xs ys : List (Int × Int)) (lj : Bool) (e3 e4 : Option Addr) (d3 d4 : Nat) (xs2 ys2 : List (Int × Int)) (w : World) (hw : KW w) (hv : Strs w a1 vs) (hf : Strs w a2 fs) (hr : Arrs w a3 rs)
    (hz : ∀ x ∈ namesOf vs fs rs, x.size ≤ 1048576) (hx : Ivs w e1 xs) (hy : Ivs w e2 ys) (hx2 : Ivs w e3 xs2) (hy2 : Ivs w e4 ys2) :
    Calls Tryd.prog 93 #[.agg #[.slice a1 vs.length c1, .slice a2 fs.length c2, .slice a3 rs.length c3], .agg #[.bool li, .slice e1 xs.length d1, .slice e2 ys.length d2], .agg #[.bool lj, .slice e3 xs2.length d3, .slice e4 ys2.length d4], .func (.func 94) #[] #[]] w
    fun e w' => ∃ oa ca ob cb, e = .returned (.agg #[.bool (joiL vs fs rs li xs ys lj xs2 ys2), .slice oa (joiV vs fs rs li xs ys lj xs2 ys2).1.length ca, .slice ob (joiV vs fs rs li xs ys lj xs2 ys2).2.length cb]) ∧ RowsE w' w.heap.size oa ca ob cb (joiV vs fs rs li xs ys lj xs2 ys2).1 (joiV vs fs rs li xs ys lj xs2 ys2).2 ∧ Below w.heap.size w w' := by
  have HW := hide hw
  have HV := hide hv
  have HF := hide hf
  have HR := hide hr
  have HZ := hide hz
  have HX := hide hx
  have HY := hide hy
  have HX2 := hide hx2
  have HY2 := hide hy2
  have HB := hide (Q5.new w (.slice a1 vs.length c1) (.slice a2 fs.length c2) (.slice a3 rs.length c3) (.bool li) (.slice e1 xs.length d1) (.slice e2 ys.length d2) (.bool lj) (.slice e3 xs2.length d3) (.slice e4 ys2.length d4) 27 43 43 43)
  clear hw hv hf hr hz hx hy hx2 hy2
  go_enter Tryd.func93, Tryd.ntmps93
  go_wp2_with fail
  generalize (((w.alloc (Obj.cells #[.slice a1 vs.length c1, .slice a2 fs.length c2, .slice a3 rs.length c3] 27)).alloc (Obj.cells #[.bool li, .slice e1 xs.length d1, .slice e2 ys.length d2] 43)).alloc (Obj.cells #[.bool lj, .slice e3 xs2.length d3, .slice e4 ys2.length d4] 43)).alloc (Obj.cells #[.bool false, .slice none 0 0, .slice none 0 0] 43) = u at HB ⊢
  refine (iEnvOk_c a1 a2 a3 c1 c2 c3 vs fs rs li e1 e2 d1 d2 xs ys _ ((unhide HW).call (unhide HB).bel) ((unhide HV).call (unhide HB).bel) ((unhide HF).call (unhide HB).bel) ((unhide HR).call (unhide HB).bel) (unhide HZ) ((unhide HX).call (unhide HB).bel) ((unhide HY).call (unhide HB).bel)).mono ?_
  rintro e u1 ⟨rfl, kb⟩
  have HB := hide ((unhide HB).call kb)
  clear kb
  have r0 := (unhide HB).2.1
  have r1 := (unhide HB).2.2.1
  have r2 := (unhide HB).2.2.2.1
  have f0 := (unhide HB).2.2.2.2 0
  have f1 := (unhide HB).2.2.2.2 1
  have f2 := (unhide HB).2.2.2.2 2
  cases h1 : envB vs fs rs li xs ys
  · have HN := hide (show joiL vs fs rs li xs ys lj xs2 ys2 = false ∧ joiV vs fs rs li xs ys lj xs2 ys2 = ([], []) by unfold joiL joiV; rw [h1]; simp)
    clear h1
    go_wp2
    rw [(unhide HN).1, (unhide HN).2]
    exact bodyPost_ret (v := .agg #[.bool false, .slice none 0 0, .slice none 0 0]) (by simp [results, Tryd.results93, go_sem, r0, r1, r2]) rfl ⟨none, 0, none, 0, rfl, rows_nil _ _, (((unhide HB).bel.setCell (by first | exact Nat.le_add_right _ _ | (simp; done) | (simp; omega)) _).setCell (by first | exact Nat.le_add_right _ _ | (simp; done) | (simp; omega)) _).setCell (by first | exact Nat.le_add_right _ _ | (simp; done) | (simp; omega)) _⟩
  have H1 := hide h1
  clear h1
  have p0 := (unhide HB).1.1.1
  have p1 := (unhide HB).1.1.2.1
  have p2 := (unhide HB).1.1.2.2.1
  have s0 := (unhide HB).1.2.2.1.1
  have s1 := (unhide HB).1.2.2.1.2.1
  have s2 := (unhide HB).1.2.2.1.2.2.1
  clear r0 r1 r2 f0 f1 f2
  go_wp2_with fail
  refine (iEnvOk_c a1 a2 a3 c1 c2 c3 vs fs rs lj e3 e4 d3 d4 xs2 ys2 _ ((unhide HW).call (unhide HB).bel) ((unhide HV).call (unhide HB).bel) ((unhide HF).call (unhide HB).bel) ((unhide HR).call (unhide HB).bel) (unhide HZ) ((unhide HX2).call (unhide HB).bel) ((unhide HY2).call (unhide HB).bel)).mono ?_
  rintro e u2 ⟨rfl, kb⟩
  have HB := hide ((unhide HB).call kb)
  clear kb p0 p1 p2 s0 s1 s2
  have r0 := (unhide HB).2.1
  have r1 := (unhide HB).2.2.1
  have r2 := (unhide HB).2.2.2.1
  have f0 := (unhide HB).2.2.2.2 0
  have f1 := (unhide HB).2.2.2.2 1
  have f2 := (unhide HB).2.2.2.2 2
  have q0 := (unhide HB).1.2.1.1
  cases h2 : envB vs fs rs lj xs2 ys2
  · have HN := hide (show joiL vs fs rs li xs ys lj xs2 ys2 = false ∧ joiV vs fs rs li xs ys lj xs2 ys2 = ([], []) by unfold joiL joiV; rw [h2]; simp)
    clear h2
    go_wp2
    rw [(unhide HN).1, (unhide HN).2]
    exact bodyPost_ret (v := .agg #[.bool false, .slice none 0 0, .slice none 0 0]) (by simp [results, Tryd.results93, go_sem, r0, r1, r2]) rfl ⟨none, 0, none, 0, rfl, rows_nil _ _, (((unhide HB).bel.setCell (by first | exact Nat.le_add_right _ _ | (simp; done) | (simp; omega)) _).setCell (by first | exact Nat.le_add_right _ _ | (simp; done) | (simp; omega)) _).setCell (by first | exact Nat.le_add_right _ _ | (simp; done) | (simp; omega)) _⟩
  have H2 := hide h2
  clear h2
  cases li
  · have HN := hide (show joiL vs fs rs false xs ys lj xs2 ys2 = lj ∧ joiV vs fs rs false xs ys lj xs2 ys2 = (xs2, ys2) by unfold joiL joiV; rw [unhide H1, unhide H2]; simp)
    have HS := hide (env_small (unhide H2))
    clear r0 r1 r2 f0 f1 f2
    go_wp2_with fail
    refine (copied_c (w.heap.size + 2) lj e3 e4 d3 d4 xs2 ys2 _ (unhide HB).1.2.2.1 ((unhide HX2).call (unhide HB).bel) ((unhide HY2).call (unhide HB).bel) (by have := unhide HS; omega)).mono ?_
    rintro e u3 ⟨oa, ca, ob, cb, rfl, hrows, kb⟩
    have z3 : w.heap.size + 3 < u2.heap.size := (unhide HB).2.lt
    have HB := hide ((unhide HB).call kb)
    have HRW := hide hrows
    clear kb hrows q0
    have r0 := (unhide HB).2.1
    have r1 := (unhide HB).2.2.1
    have r2 := (unhide HB).2.2.2.1
    have f0 := (unhide HB).2.2.2.2 0
    have f1 := (unhide HB).2.2.2.2 1
    have f2 := (unhide HB).2.2.2.2 2
    go_wp2
    rw [(unhide HN).1, (unhide HN).2]
    exact bodyPost_ret (v := .agg #[.bool lj, .slice oa xs2.length ca, .slice ob ys2.length cb]) (by simp [results, Tryd.results93, go_sem, r0, r1, r2]) rfl ⟨oa, ca, ob, cb, rfl, ((((unhide HRW).set (by omega)).set (by omega)).set (by omega)).down (by omega), (((unhide HB).bel.setCell (by first | exact Nat.le_add_right _ _ | (simp; done) | (simp; omega)) _).setCell (by first | exact Nat.le_add_right _ _ | (simp; done) | (simp; omega)) _).setCell (by first | exact Nat.le_add_right _ _ | (simp; done) | (simp; omega)) _⟩
  · have HS1 := hide (env_small (unhide H1))
    have HS2 := hide (env_small (unhide H2))
    clear r0 r1 r2 f0 f1 f2
    go_wp2_with fail
    refine (copied_c (w.heap.size + 1) true e1 e2 d1 d2 xs ys _ (unhide HB).1.2.1 ((unhide HX).call (unhide HB).bel) ((unhide HY).call (unhide HB).bel) (by have := unhide HS1; omega)).mono ?_
    rintro e u3 ⟨oa, ca, ob, cb, rfl, hrows, kb⟩
    have z3 : w.heap.size + 3 < u2.heap.size := (unhide HB).2.lt
    have zs : u2.heap.size ≤ u3.heap.size := kb.size
    have HTA : Hid ((∀ x, oa = some x → x.block < u3.heap.size) ∧ (∀ x, ob = some x → x.block < u3.heap.size)) := ⟨fun x hx => (hrows.1.lt x.block (by rw [hx]; rfl)).2, fun x hx => (hrows.2.1.lt x.block (by rw [hx]; rfl)).2⟩
    have ka := (Below.refl _ u3).alloc (Nat.le_refl _) (Obj.cells #[.bool true, .slice oa xs.length ca, .slice ob ys.length cb] 43)
    have HB := hide (((unhide HB).call kb).call ka)
    have HRW := hide (hrows.call ka)
    have HE := hide (C3.new u3 (.bool true) (.slice oa xs.length ca) (.slice ob ys.length cb) 43)
    obtain ⟨g1, ha1⟩ := hrows.at1
    obtain ⟨g2, ha2⟩ := hrows.at2
    have HA1 := hide ha1
    have HA2 := hide ha2
    clear ha1 ha2 hrows kb ka q0
    obtain ⟨B, hBB⟩ : ∃ B, B = u2.heap.size := ⟨_, rfl⟩
    rw [← hBB] at HRW z3 zs
    clear hBB
    obtain ⟨X, hX⟩ : ∃ X, X = u3.heap.size := ⟨_, rfl⟩
    obtain ⟨u4, hz⟩ : ∃ z, z = u3.alloc (Obj.cells #[.bool true, .slice oa xs.length ca, .slice ob ys.length cb] 43) := ⟨_, rfl⟩
    have hs4 : u4.heap.size = X + 1 := by rw [hz, hX]; simp
    rw [← hX, ← hz] at HE
    rw [← hz] at HB HRW
    rw [← hX] at HTA zs
    have hXZ := hide (And.intro hX hz)
    clear hX hz
    go_upto_region 6 with fail
    rw [← (unhide hXZ).1, ← (unhide hXZ).2]
    clear hXZ
    go_wp2_with fail
    refine (intervalsR_c X true oa ob g1 g2 ca cb xs.length ys.length (unhide HA1) (unhide HA2) _ (unhide HE) (by have := unhide HS1; omega)).mono ?_
    rintro e u5 ⟨pa, pc, rfl, hown, kb⟩
    have HB := hide ((unhide HB).call kb)
    have HRW := hide ((unhide HRW).call kb)
    have HE := hide ((unhide HE).call kb)
    rw [hs4] at hown
    have HO := hide hown
    have hs5 : X + 1 ≤ u5.heap.size := by have := kb.size; omega
    clear kb hown hs4
    go_wp2_with fail
    refine (intervals_c (w.heap.size + 2) lj e3 e4 d3 d4 xs2.length ys2.length _ (unhide HX2).atN (unhide HY2).atN (unhide HB).1.2.2.1 (by have := unhide HS2; omega)).mono ?_
    rintro e u6 ⟨qa, qc, rfl, hown, kb⟩
    have HB := hide ((unhide HB).call kb)
    have HRW := hide ((unhide HRW).call kb)
    have HE := hide ((unhide HE).call kb)
    have HO := hide (own_call (unhide HO) kb)
    have HO2 := hide (own_down hown hs5)
    clear kb hown hs5
    have HC := hide (unhide HB).2
    have HK := hide (unhide HB).bel
    cases lj
    · have hL0 := (unhide HS2).2.2 rfl
      have HN := hide (show joiL vs fs rs true xs ys false xs2 ys2 = true ∧ joiV vs fs rs true xs ys false xs2 ys2 = (xs, ys) by unfold joiL joiV; rw [unhide H1, unhide H2]; simp)
      have e0 : ((xs2.length + ys2.length : Nat) : Int) = 0 := by omega
      have E0 := hide e0
      clear hL0 e0
      generalize xs2.length + ys2.length = L at E0 HO2 ⊢
      obtain rfl : L = 0 := by have := unhide E0; omega
      clear E0
      go_wp2
      go_loopw [32] (fun i wr => i = .int .i64 0 ∧ wr = u6) (fun i _ => 0)
      case atStart => exact ⟨rfl, rfl⟩
      case round =>
        obtain ⟨rfl, rfl⟩ := hrel
        have r0 := (unhide HC).1
        have r1 := (unhide HC).2.1
        have r2 := (unhide HC).2.2.1
        have f0 := (unhide HC).2.2.2 0
        have f1 := (unhide HC).2.2.2 1
        have f2 := (unhide HC).2.2.2 2
        have b0 := (unhide HE).1
        have b1 := (unhide HE).2.1
        have b2 := (unhide HE).2.2.1
        go_wp2
        rw [(unhide HN).1, (unhide HN).2]
        exact bodyPost_ret (v := .agg #[.bool true, .slice oa xs.length ca, .slice ob ys.length cb]) (by simp [results, Tryd.results93, go_sem, r0, r1, r2]) rfl ⟨oa, ca, ob, cb, rfl, ((((unhide HRW).set (by omega)).set (by omega)).set (by omega)).down (by omega), (((unhide HK).setCell (by first | exact Nat.le_add_right _ _ | (simp; done) | (simp; omega)) _).setCell (by first | exact Nat.le_add_right _ _ | (simp; done) | (simp; omega)) _).setCell (by first | exact Nat.le_add_right _ _ | (simp; done) | (simp; omega)) _⟩
    · have HN := hide (show joiL vs fs rs true xs ys true xs2 ys2 = true ∧ joiV vs fs rs true xs ys true xs2 ys2 = (List.zipWith jn xs xs2, List.zipWith jn ys ys2) by unfold joiL joiV; rw [unhide H1, unhide H2]; simp)
      have HLE := hide (env_lens (unhide H1) (unhide H2) rfl rfl)
      obtain ⟨L, hL⟩ : ∃ L, L = xs2.length + ys2.length := ⟨_, rfl⟩
      have HL := hide (show L = xs2.length + ys2.length ∧ L = xs.length + ys.length ∧ L ≤ 7 by have := unhide HLE; omega)
      rw [← hL] at HO2 ⊢
      rw [show xs.length + ys.length = L from (unhide HL).2.1.symm] at HO ⊢
      have hL7 : (L : Int) ≤ 7 := by have := unhide HL; omega
      clear hL
      have HZT := hide (show (xs ++ ys).length = (xs2 ++ ys2).length by have := unhide HLE; simp; omega)
      go_wp2
      go_loopw [32] (fun i wr => ∃ (k : Nat) (xs' ys' : List (Int × Int)), k ≤ L ∧ i = .int .i64 k ∧ xs'.length = xs.length ∧ ys'.length = ys.length ∧ xs' ++ ys' = upd (xs ++ ys) (xs2 ++ ys2) k ∧ RowsE wr B oa ca ob cb xs' ys' ∧ wr.ownsRow (X + 1) 119 1 (.slice pa L pc) L (cellsP (ptrsB g1 xs.length ++ ptrsB g2 ys.length)) ∧ wr.ownsRow (X + 1) 119 1 (.slice qa L qc) L (cellsP (ptrsN e3 xs2.length ++ ptrsN e4 ys2.length)) ∧ C3 wr X (.bool true) (.slice oa xs.length ca) (.slice ob ys.length cb) ∧ C3 wr (w.heap.size + 3) (.bool false) (.slice none 0 0) (.slice none 0 0) ∧ Below w.heap.size w wr) (fun i _ => L - (intOf i).toNat)
      case atStart => exact ⟨0, xs, ys, Nat.zero_le _, rfl, rfl, rfl, (upd_zero _ _).symm, unhide HRW, unhide HO, unhide HO2, unhide HE, unhide HC, unhide HK⟩
      case round =>
        clear HRW HO HO2 HE HC HK HB
        obtain ⟨k, xs', ys', hk, rfl, hx1, hy1, hup, hrw, ho, ho2, he, hc, hb⟩ := hrel
        have HX1 := hide hx1
        have HY1 := hide hy1
        have HUP := hide hup
        have HRW := hide hrw
        have HO := hide ho
        have HO2 := hide ho2
        have HE := hide he
        have HC := hide hc
        have HK := hide hb
        clear hx1 hy1 hup hrw ho ho2 he hc hb
        by_cases hlt : k < L
        · have hkZ : k < (xs ++ ys).length := by have := unhide HL; simp; omega
          have hkT : k < (xs2 ++ ys2).length := by have := unhide HL; simp; omega
          have hkU : k < (xs' ++ ys').length := by have := unhide HL; have := unhide HX1; have := unhide HY1; simp; omega
          -- where the other interval stands
          obtain ⟨pb2, po2, hp2, y0, y1⟩ := ptrs_cells ((unhide HX2).call (unhide HK)) ((unhide HY2).call (unhide HK)) k hkT
          have hPt2 := (Ptrs.ofOwn (unhide HO2) (by have := unhide HL; omega)).2
          rcases hPt2.2 with h0 | ⟨qb, qo, rfl, hq⟩
          · rw [List.length_append, ptrsN_len, ptrsN_len] at h0; rw [List.length_append] at hkT; omega
          have c2 := hq k (by simp [ptrsN_len, ptrsB_len]; simp at hkT; omega)
          have hp2' : (ptrsN e3 xs2.length ++ ptrsN e4 ys2.length)[k]'(by simp [ptrsN_len, ptrsB_len]; simp at hkT; omega) = ⟨pb2, po2, none⟩ := by
            have := hp2
            rw [List.getElem?_eq_getElem (by simp [ptrsN_len, ptrsB_len]; simp at hkT; omega)] at this
            exact Option.some.inj this
          rw [hp2'] at c2
          -- where the own one stands
          obtain ⟨pb, po, hp1, hor, hB1, hB2, t0, t1, tf, _⟩ := (unhide HRW).writeAt (g1 := g1) (g2 := g2) (by rw [unhide HX1]; exact unhide HA1) (by rw [unhide HY1]; exact unhide HA2) k hkU (0, 0)
          have hPt1 := (Ptrs.ofOwn (unhide HO) (by have := unhide HL; omega)).2
          rcases hPt1.2 with h0 | ⟨rb, ro, rfl, hq1⟩
          · rw [List.length_append, ptrsB_len, ptrsB_len] at h0; rw [List.length_append] at hkZ; omega
          have c1 := hq1 k (by simp [ptrsN_len, ptrsB_len]; simp at hkZ; omega)
          have hp1' : (ptrsB g1 xs.length ++ ptrsB g2 ys.length)[k]'(by simp [ptrsN_len, ptrsB_len]; simp at hkZ; omega) = ⟨pb, po, none⟩ := by
            have := hp1
            rw [unhide HX1, unhide HY1] at this
            rw [List.getElem?_eq_getElem (by simp [ptrsN_len, ptrsB_len]; simp at hkZ; omega)] at this
            exact Option.some.inj this
          rw [hp1'] at c1
          have hv : (xs' ++ ys')[k] = (xs ++ ys)[k] := (List.getElem_of_eq (unhide HUP) hkU).trans (upd_at (xs ++ ys) (xs2 ++ ys2) k (unhide HZT) hkZ)
          rw [hv] at t0 t1
          have HV' := hide hv
          have HP1 := hide hp1
          have HOR := hide hor
          clear hq hq1 hPt1 hPt2 hp2 hp2' hp1 hp1' hor hv tf
          obtain ⟨x, hxx⟩ : ∃ x, x = (xs ++ ys)[k].1 := ⟨_, rfl⟩
          obtain ⟨y, hyy⟩ : ∃ y, y = (xs ++ ys)[k].2 := ⟨_, rfl⟩
          obtain ⟨x2, hxx2⟩ : ∃ x, x = (xs2 ++ ys2)[k].1 := ⟨_, rfl⟩
          obtain ⟨y2, hyy2⟩ : ∃ y, y = (xs2 ++ ys2)[k].2 := ⟨_, rfl⟩
          rw [← hxx] at t0
          rw [← hyy] at t1
          rw [← hxx2] at y0
          rw [← hyy2] at y1
          have HXX := hide (show jn (xs ++ ys)[k] (xs2 ++ ys2)[k] = (joinL x y x2 y2, joinH x y x2 y2) by unfold jn; rw [hxx, hyy, hxx2, hyy2])
          clear hxx hyy hxx2 hyy2
          have hlt' : (k : Int) < (L : Int) := by omega
          go_wp2_with fail
          have HPX : Hid (pb < X ∧ w.heap.size + 3 < pb) := by
            rcases unhide HOR with q | q
            · exact ⟨(unhide HTA).1 _ q, by omega⟩
            · exact ⟨(unhide HTA).2 _ q, by omega⟩
          clear hB1 hB2
          go_region_with (go_at_call 94; refine (IvJoin_c _ _ _ _ _).mono ?_; rintro e w1 ⟨rfl, hb⟩; have c3 := ((bel_dr hb).cell (World.block_lt_of_cell? wr _ c1)).trans c1; obtain ⟨⟨v0, v1, t3, t4⟩, tf, hJ⟩ := join_step (bel_dr hb) (unhide HRW) (by rw [unhide HX1]; exact unhide HA1) (by rw [unhide HY1]; exact unhide HA2) hkU (unhide HP1) (joinL x y x2 y2, joinH x y x2 y2) (unhide HO) (unhide HO2) (unhide HE) (unhide HC) (unhide HK) (unhide HPX).1 (unhide HPX).2; have f3 := tf po; have f4 := tf (po + 1); have HJ := hide hJ; clear tf hJ hb)
          all_goals
            clear c1 c2 c3 t0 t1 t3 t4 y0 y1 f3 f4
            go_wp2
            go_roundw
            case rel =>
              obtain ⟨xs'', ys'', l1, l2, e4, h5, h6, h7, h8, h9, h10⟩ := unhide HJ
              exact ⟨k + 1, xs'', ys'', by omega, by go_num, l1.trans (unhide HX1), l2.trans (unhide HY1), by rw [e4, unhide HUP, ← unhide HXX]; exact upd_set (xs ++ ys) (xs2 ++ ys2) k (unhide HZT) hkZ, h5, h6, h7, h8, h9, h10⟩
            case measure => simp [intOf]; omega
        · obtain rfl : k = L := by omega
          have hr0 := unhide HRW
          have r0 := (unhide HC).1
          have r1 := (unhide HC).2.1
          have r2 := (unhide HC).2.2.1
          have f0 := (unhide HC).2.2.2 0
          have f1 := (unhide HC).2.2.2 1
          have f2 := (unhide HC).2.2.2 2
          have b0 := (unhide HE).1
          have b1 := (unhide HE).2.1
          have b2 := (unhide HE).2.2.1
          have EX : Hid (xs' = List.zipWith jn xs xs2 ∧ ys' = List.zipWith jn ys ys2) := by
            have hu := unhide HUP
            rw [show k = (xs ++ ys).length by rw [List.length_append]; exact (unhide HL).2.1, upd_all _ _ (unhide HZT), List.zipWith_append (by have := unhide HLE; omega)] at hu
            exact List.append_inj hu (by rw [unhide HX1]; simp; have := unhide HLE; omega)
          have HRZ : Hid (RowsE wr B oa ca ob cb (List.zipWith jn xs xs2) (List.zipWith jn ys ys2)) := by unfold Hid; rw [← (unhide EX).1, ← (unhide EX).2]; exact hr0
          have EL : Hid ((List.zipWith jn xs xs2).length = xs.length ∧ (List.zipWith jn ys ys2).length = ys.length) := by
            rw [← (unhide EX).1, ← (unhide EX).2]
            exact ⟨unhide HX1, unhide HY1⟩
          clear hr0
          go_wp2
          rw [(unhide HN).1, (unhide HN).2, show (List.zipWith jn xs xs2, List.zipWith jn ys ys2).1.length = xs.length from (unhide EL).1, show (List.zipWith jn xs xs2, List.zipWith jn ys ys2).2.length = ys.length from (unhide EL).2]
          exact bodyPost_ret (v := .agg #[.bool true, .slice oa xs.length ca, .slice ob ys.length cb]) (by simp [results, Tryd.results93, go_sem, r0, r1, r2]) rfl ⟨oa, ca, ob, cb, rfl, ((((unhide HRZ).set (by omega)).set (by omega)).set (by omega)).down (by omega), (((unhide HK).setCell (by first | exact Nat.le_add_right _ _ | (simp; done) | (simp; omega)) _).setCell (by first | exact Nat.le_add_right _ _ | (simp; done) | (simp; omega)) _).setCell (by first | exact Nat.le_add_right _ _ | (simp; done) | (simp; omega)) _⟩
end Go.Proofs.YtpdnnpnclgcpoaaDoor

/- Joined bounds: the program's function. -/
namespace Go.Proofs.YtpdnnpnclgcpoaaDoor
open Go.RowKit
set_option linter.unusedSimpArgs false
set_option linter.unusedVariables false

set_option maxRecDepth 20000 in
set_option maxHeartbeats 2000000 in
theorem iEnvJoin_c (a1 a2 a3 : Option Addr) (c1 c2 c3 : Nat) (vs fs : List ByteArray) (rs : List (ByteArray × Int)) (li : Bool) (e1 e2 : Option Addr) (d1 d2 : Nat) (xs ys : List (Int × Int)) (lj : Bool) (e3 e4 : Option Addr) (d3 d4 : Nat) (xs2 ys2 : List (Int × Int)) (w : World) (hw : KW w) (hv : Strs w a1 vs) (hf : Strs w a2 fs) (hr : Arrs w a3 rs)
    (hz : ∀ x ∈ namesOf vs fs rs, x.size ≤ 1048576) (hx : Ivs w e1 xs) (hy : Ivs w e2 ys) (hx2 : Ivs w e3 xs2) (hy2 : Ivs w e4 ys2) :
    Calls Tryd.prog 54 #[.agg #[.slice a1 vs.length c1, .slice a2 fs.length c2, .slice a3 rs.length c3], .agg #[.bool li, .slice e1 xs.length d1, .slice e2 ys.length d2], .agg #[.bool lj, .slice e3 xs2.length d3, .slice e4 ys2.length d4]] w
    fun e w' => ∃ oa ca ob cb, e = .returned (.agg #[.bool (joiL vs fs rs li xs ys lj xs2 ys2), .slice oa (joiV vs fs rs li xs ys lj xs2 ys2).1.length ca, .slice ob (joiV vs fs rs li xs ys lj xs2 ys2).2.length cb]) ∧ RowsE w' w.heap.size oa ca ob cb (joiV vs fs rs li xs ys lj xs2 ys2).1 (joiV vs fs rs li xs ys lj xs2 ys2).2 ∧ Below w.heap.size w w' := by
  have HW := hide hw
  have HV := hide hv
  have HF := hide hf
  have HR := hide hr
  have HZ := hide hz
  have HX := hide hx
  have HY := hide hy
  have HX2 := hide hx2
  have HY2 := hide hy2
  have HB := hide (Q5.new w (.slice a1 vs.length c1) (.slice a2 fs.length c2) (.slice a3 rs.length c3) (.bool li) (.slice e1 xs.length d1) (.slice e2 ys.length d2) (.bool lj) (.slice e3 xs2.length d3) (.slice e4 ys2.length d4) 27 43 43 43)
  clear hw hv hf hr hz hx hy hx2 hy2
  go_enter Tryd.func54, Tryd.ntmps54
  go_wp2_with fail
  generalize (((w.alloc (Obj.cells #[.slice a1 vs.length c1, .slice a2 fs.length c2, .slice a3 rs.length c3] 27)).alloc (Obj.cells #[.bool li, .slice e1 xs.length d1, .slice e2 ys.length d2] 43)).alloc (Obj.cells #[.bool lj, .slice e3 xs2.length d3, .slice e4 ys2.length d4] 43)).alloc (Obj.cells #[.bool false, .slice none 0 0, .slice none 0 0] 43) = u at HB ⊢
  refine (joinedBy_c a1 a2 a3 c1 c2 c3 vs fs rs li e1 e2 d1 d2 xs ys lj e3 e4 d3 d4 xs2 ys2 _ ((unhide HW).call (unhide HB).bel) ((unhide HV).call (unhide HB).bel) ((unhide HF).call (unhide HB).bel) ((unhide HR).call (unhide HB).bel) (unhide HZ) ((unhide HX).call (unhide HB).bel) ((unhide HY).call (unhide HB).bel) ((unhide HX2).call (unhide HB).bel) ((unhide HY2).call (unhide HB).bel)).mono ?_
  rintro e u1 ⟨oa, ca, ob, cb, rfl, hrows, kb⟩
  have z3 : w.heap.size + 3 < u.heap.size := (unhide HB).2.lt
  have HB := hide ((unhide HB).call kb)
  have HRW := hide hrows
  clear kb hrows
  have r0 := (unhide HB).2.1
  have r1 := (unhide HB).2.2.1
  have r2 := (unhide HB).2.2.2.1
  have f0 := (unhide HB).2.2.2.2 0
  have f1 := (unhide HB).2.2.2.2 1
  have f2 := (unhide HB).2.2.2.2 2
  go_wp2
  exact bodyPost_ret (v := .agg #[.bool (joiL vs fs rs li xs ys lj xs2 ys2), .slice oa (joiV vs fs rs li xs ys lj xs2 ys2).1.length ca, .slice ob (joiV vs fs rs li xs ys lj xs2 ys2).2.length cb]) (by simp [results, Tryd.results54, go_sem, r0, r1, r2]) rfl ⟨oa, ca, ob, cb, rfl, ((((unhide HRW).set (b := w.heap.size + 3) (by omega)).set (b := w.heap.size + 3) (by omega)).set (b := w.heap.size + 3) (by omega)).down (B' := w.heap.size) (by omega), (((unhide HB).bel.setCell (by first | exact Nat.le_add_right _ _ | (simp; done) | (simp; omega)) _).setCell (by first | exact Nat.le_add_right _ _ | (simp; done) | (simp; omega)) _).setCell (by first | exact Nat.le_add_right _ _ | (simp; done) | (simp; omega)) _⟩
end Go.Proofs.YtpdnnpnclgcpoaaDoor

