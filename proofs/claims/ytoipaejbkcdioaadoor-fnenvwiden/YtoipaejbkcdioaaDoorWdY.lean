/- Texts that go together: WdU, WdJ, WdK, WdL. -/
import Derived.Test.YtoipaejbkcdioaaDoorJoiG
import Derived.Test.YtoipaejbkcdioaaDoorWdZ
/- Widened bounds: what they are; the function that widens two intervals. -/
namespace Go.Proofs.YtoipaejbkcdioaaDoor
open Go.RowKit
set_option linter.unusedSimpArgs false
set_option linter.unusedVariables false

def wd (st : List Int) (p q : Int × Int) : Int × Int := (widL p.1 p.2 q.1 q.2 st, widH p.1 p.2 q.1 q.2 st)
/-- The first k are made anew. -/
def updF (f : Int × Int → Int × Int → Int × Int) (Z T : List (Int × Int)) (k : Nat) : List (Int × Int) := (List.zipWith f Z T).take k ++ Z.drop k
theorem updF_len (f : Int × Int → Int × Int → Int × Int) (Z T : List (Int × Int)) (k : Nat) (h : Z.length = T.length) (hk : k ≤ Z.length) : (updF f Z T k).length = Z.length := by
  unfold updF
  simp
  omega
theorem updF_zero (f : Int × Int → Int × Int → Int × Int) (Z T : List (Int × Int)) : updF f Z T 0 = Z := by simp [updF]
theorem updF_all (f : Int × Int → Int × Int → Int × Int) (Z T : List (Int × Int)) (h : Z.length = T.length) : updF f Z T Z.length = List.zipWith f Z T := by
  unfold updF
  rw [List.drop_length, List.append_nil, List.take_of_length_le (by simp; omega)]
theorem updF_get (f : Int × Int → Int × Int → Int × Int) (Z T : List (Int × Int)) (k i : Nat) (h : Z.length = T.length) (hk : k ≤ Z.length) (hi : i < Z.length) : (updF f Z T k)[i]? = some (if i < k then f Z[i] (T[i]'(by omega)) else Z[i]) := by
  have hz : (List.zipWith f Z T).length = Z.length := by simp; omega
  have ht : ((List.zipWith f Z T).take k).length = k := by rw [List.length_take, hz]; omega
  unfold updF
  by_cases c : i < k
  · rw [List.getElem?_append_left (by rw [ht]; exact c), List.getElem?_take_of_lt c, if_pos c, List.getElem?_eq_getElem (by rw [hz]; exact hi), List.getElem_zipWith]
  · rw [List.getElem?_append_right (by rw [ht]; omega), ht, List.getElem?_drop, if_neg c, show k + (i - k) = i by omega, List.getElem?_eq_getElem hi]
theorem updF_at (f : Int × Int → Int × Int → Int × Int) (Z T : List (Int × Int)) (k : Nat) (h : Z.length = T.length) (hk : k < Z.length) : (updF f Z T k)[k]'(by rw [updF_len f Z T k h (by omega)]; exact hk) = Z[k] := by
  have q := updF_get f Z T k k h (by omega) hk
  rw [List.getElem?_eq_getElem (by rw [updF_len f Z T k h (by omega)]; exact hk), if_neg (by omega)] at q
  exact Option.some.inj q
theorem updF_set (f : Int × Int → Int × Int → Int × Int) (Z T : List (Int × Int)) (k : Nat) (h : Z.length = T.length) (hk : k < Z.length) : (updF f Z T k).set k (f Z[k] (T[k]'(by omega))) = updF f Z T (k + 1) := by
  have hl : (updF f Z T k).length = Z.length := updF_len f Z T k h (by omega)
  have hl2 : (updF f Z T (k + 1)).length = Z.length := updF_len f Z T (k + 1) h (by omega)
  apply List.ext_getElem?
  intro i
  by_cases hi : i < Z.length
  · rw [List.getElem?_set, updF_get f Z T (k + 1) i h (by omega) hi, updF_get f Z T k i h (by omega) hi]
    by_cases e : k = i
    · subst e
      rw [if_pos rfl, if_pos (by rw [hl]; exact hk), if_pos (by omega)]
    · rw [if_neg e]
      by_cases c : i < k
      · rw [if_pos c, if_pos (by omega)]
      · rw [if_neg c, if_neg (by omega)]
  · rw [List.getElem?_eq_none (by rw [List.length_set, hl]; omega), List.getElem?_eq_none (by rw [hl2]; omega)]
/-- What the widening of bounds is, where there are not too many steps. -/
def widV (st : List Int) (vs fs : List ByteArray) (rs : List (ByteArray × Int)) (li : Bool) (xs ys : List (Int × Int)) (lj : Bool) (xs2 ys2 : List (Int × Int)) : List (Int × Int) × List (Int × Int) :=
  if envB vs fs rs li xs ys = true ∧ envB vs fs rs lj xs2 ys2 = true then (if li = true then (if lj = true then (List.zipWith (wd st) xs xs2, List.zipWith (wd st) ys ys2) else (xs, ys)) else (xs2, ys2)) else ([], [])
def wdnL (st : List Int) (vs fs : List ByteArray) (rs : List (ByteArray × Int)) (li : Bool) (xs ys : List (Int × Int)) (lj : Bool) (xs2 ys2 : List (Int × Int)) : Bool := decide (st.length ≤ 100) && joiL vs fs rs li xs ys lj xs2 ys2
def wdnV (st : List Int) (vs fs : List ByteArray) (rs : List (ByteArray × Int)) (li : Bool) (xs ys : List (Int × Int)) (lj : Bool) (xs2 ys2 : List (Int × Int)) : List (Int × Int) × List (Int × Int) := if st.length ≤ 100 then widV st vs fs rs li xs ys lj xs2 ys2 else ([], [])
theorem wdnV_len (st : List Int) (vs fs : List ByteArray) (rs : List (ByteArray × Int)) (li : Bool) (xs ys : List (Int × Int)) (lj : Bool) (xs2 ys2 : List (Int × Int)) (M : Nat) (h : xs.length ≤ M ∧ ys.length ≤ M ∧ xs2.length ≤ M ∧ ys2.length ≤ M) : (wdnV st vs fs rs li xs ys lj xs2 ys2).1.length ≤ M ∧ (wdnV st vs fs rs li xs ys lj xs2 ys2).2.length ≤ M := by
  unfold wdnV widV
  split
  · split
    · split
      · split
        · simp only [List.length_zipWith]; omega
        · simp only; omega
      · simp only; omega
    · simp
  · simp
theorem wdn_many {st : List Int} {vs fs : List ByteArray} {rs : List (ByteArray × Int)} {li lj : Bool} {xs ys xs2 ys2 : List (Int × Int)} (h : ¬ st.length ≤ 100) : wdnL st vs fs rs li xs ys lj xs2 ys2 = false ∧ wdnV st vs fs rs li xs ys lj xs2 ys2 = ([], []) := by
  unfold wdnL wdnV
  rw [decide_eq_false h, if_neg h]
  exact ⟨rfl, rfl⟩
theorem wdn_few {st : List Int} {vs fs : List ByteArray} {rs : List (ByteArray × Int)} {li lj : Bool} {xs ys xs2 ys2 : List (Int × Int)} (h : st.length ≤ 100) : wdnL st vs fs rs li xs ys lj xs2 ys2 = joiL vs fs rs li xs ys lj xs2 ys2 ∧ wdnV st vs fs rs li xs ys lj xs2 ys2 = widV st vs fs rs li xs ys lj xs2 ys2 := by
  unfold wdnL wdnV
  rw [decide_eq_true h, if_pos h]
  exact ⟨by simp, rfl⟩
set_option maxRecDepth 20000 in
set_option maxHeartbeats 2000000 in
theorem wid1_c (x y x2 y2 : Int) (sb : Nat) (sa : Option Addr) (sc : Nat) (st : List Int) (w : World) (hst : w.cell? ⟨sb, 0, none⟩ = some (.slice sa st.length sc)) (hzs : Ints w sa st) : Calls Tryd.prog 55 #[.agg #[.int .i64 x, .int .i64 y], .agg #[.int .i64 x2, .int .i64 y2], .pointer (some ⟨sb, 0, none⟩)] w fun e w' => e = .returned (.agg #[.int .i64 (widL x y x2 y2 st), .int .i64 (widH x y x2 y2 st)]) ∧ Below w.heap.size w w' := by
  have HZ := hide hzs
  have lb : sb < w.heap.size := World.block_lt_of_cell? _ _ hst
  have ha : Below w.heap.size w (((w.alloc (Obj.cells #[.int .i64 x, .int .i64 y] 67)).alloc (Obj.cells #[.int .i64 x2, .int .i64 y2] 67)).alloc (Obj.cells #[.int .i64 0, .int .i64 0] 67)) := (((Below.refl _ _).alloc (Nat.le_refl _) _).alloc (by simp) _).alloc (by simp; omega) _
  have c := (ha.cell (p := ⟨sb, 0, none⟩) (by exact lb)).trans hst
  have HA := hide ha
  clear ha hzs lb hst
  go_enter Tryd.func55, Tryd.ntmps55
  go_wp2_with fail
  refine (IvWiden_c _ _ _ _ _ _ st _ ((unhide HZ).call (unhide HA))).mono ?_
  rintro e w1 ⟨rfl, hb1⟩
  have B1 := hb1.mono (show w.heap.size + 3 ≤ _ by simp)
  obtain ⟨hc1, hf1⟩ := bcellB B1
  have K1 := hide ((unhide HA).trans (B1.mono (by omega)))
  clear hb1 B1 c
  go_wp2
  exact bodyPost_ret (v := .agg #[.int .i64 (widL x y x2 y2 st), .int .i64 (widH x y x2 y2 st)]) (by simp [results, Tryd.results55, go_sem, hc1]) rfl ⟨rfl, ((unhide K1).setCell (by simp; omega) _).setCell (by simp; omega) _⟩
end Go.Proofs.YtoipaejbkcdioaaDoor

/- Widened bounds, as the program makes them. -/
namespace Go.Proofs.YtoipaejbkcdioaaDoor
open Go.RowKit
set_option linter.unusedSimpArgs false
set_option linter.unusedVariables false

set_option maxRecDepth 20000 in
set_option maxHeartbeats 4000000 in
theorem joinedByW_c (sb : Nat) (sa : Option Addr) (sc : Nat) (st : List Int) (a1 a2 a3 : Option Addr) (c1 c2 c3 : Nat) (vs fs : List ByteArray) (rs : List (ByteArray × Int)) (li : Bool) (e1 e2 : Option Addr) (d1 d2 : Nat) (xs ys : List (Int × Int)) (lj : Bool) (e3 e4 : Option Addr) (d3 d4 : Nat) (xs2 ys2 : List (Int × Int)) (w : World) (hst : w.cell? ⟨sb, 0, none⟩ = some (.slice sa st.length sc)) (hzs : Ints w sa st) (hw : KW w) (hv : Strs w a1 vs) (hf : Strs w a2 fs) (hr : Arrs w a3 rs)
    (hz : ∀ x ∈ namesOf vs fs rs, x.size ≤ 1048576) (hx : Ivs w e1 xs) (hy : Ivs w e2 ys) (hx2 : Ivs w e3 xs2) (hy2 : Ivs w e4 ys2) :
    Calls Tryd.prog 45 #[.agg #[.slice a1 vs.length c1, .slice a2 fs.length c2, .slice a3 rs.length c3], .agg #[.bool li, .slice e1 xs.length d1, .slice e2 ys.length d2], .agg #[.bool lj, .slice e3 xs2.length d3, .slice e4 ys2.length d4], .func (.func 55) #[] #[.pointer (some ⟨sb, 0, none⟩)]] w
    fun e w' => ∃ oa ca ob cb, e = .returned (.agg #[.bool (joiL vs fs rs li xs ys lj xs2 ys2), .slice oa (widV st vs fs rs li xs ys lj xs2 ys2).1.length ca, .slice ob (widV st vs fs rs li xs ys lj xs2 ys2).2.length cb]) ∧ RowsE w' w.heap.size oa ca ob cb (widV st vs fs rs li xs ys lj xs2 ys2).1 (widV st vs fs rs li xs ys lj xs2 ys2).2 ∧ Below w.heap.size w w' := by
  have HW := hide hw
  have HST := hide hst
  have HZS := hide hzs
  have HV := hide hv
  have HF := hide hf
  have HR := hide hr
  have HZ := hide hz
  have HX := hide hx
  have HY := hide hy
  have HX2 := hide hx2
  have HY2 := hide hy2
  have HB := hide (Q5.new w (.slice a1 vs.length c1) (.slice a2 fs.length c2) (.slice a3 rs.length c3) (.bool li) (.slice e1 xs.length d1) (.slice e2 ys.length d2) (.bool lj) (.slice e3 xs2.length d3) (.slice e4 ys2.length d4) 27 30 30 30)
  clear hst hzs hw hv hf hr hz hx hy hx2 hy2
  go_enter Tryd.func45, Tryd.ntmps45
  go_wp2_with fail
  generalize (((w.alloc (Obj.cells #[.slice a1 vs.length c1, .slice a2 fs.length c2, .slice a3 rs.length c3] 27)).alloc (Obj.cells #[.bool li, .slice e1 xs.length d1, .slice e2 ys.length d2] 30)).alloc (Obj.cells #[.bool lj, .slice e3 xs2.length d3, .slice e4 ys2.length d4] 30)).alloc (Obj.cells #[.bool false, .slice none 0 0, .slice none 0 0] 30) = u at HB ⊢
  refine (iEnvOk_c a1 a2 a3 c1 c2 c3 vs fs rs li e1 e2 d1 d2 xs ys _ ((unhide HW).call (unhide HB).bel) ((unhide HV).call (unhide HB).bel) ((unhide HF).call (unhide HB).bel) ((unhide HR).call (unhide HB).bel) (unhide HZ) ((unhide HX).call (unhide HB).bel) ((unhide HY).call (unhide HB).bel)).mono ?_
  rintro e u1 ⟨rfl, kb⟩
  have HB := hide ((unhide HB).call kb)
  clear kb
  have r0 := (unhide HB).2.1
  have r1 := (unhide HB).2.2.1
  have r2 := (unhide HB).2.2.2.1
  have f0 := (unhide HB).2.2.2.2 0
  have f1 := (unhide HB).2.2.2.2 1
  have f2 := (unhide HB).2.2.2.2 2
  cases h1 : envB vs fs rs li xs ys
  · have HN := hide (show joiL vs fs rs li xs ys lj xs2 ys2 = false ∧ widV st vs fs rs li xs ys lj xs2 ys2 = ([], []) by unfold joiL widV; rw [h1]; simp)
    clear h1
    go_wp2
    rw [(unhide HN).1, (unhide HN).2]
    exact bodyPost_ret (v := .agg #[.bool false, .slice none 0 0, .slice none 0 0]) (by simp [results, Tryd.results45, go_sem, r0, r1, r2]) rfl ⟨none, 0, none, 0, rfl, rows_nil _ _, (((unhide HB).bel.setCell (by first | exact Nat.le_add_right _ _ | (simp; done) | (simp; omega)) _).setCell (by first | exact Nat.le_add_right _ _ | (simp; done) | (simp; omega)) _).setCell (by first | exact Nat.le_add_right _ _ | (simp; done) | (simp; omega)) _⟩
  have H1 := hide h1
  clear h1
  have p0 := (unhide HB).1.1.1
  have p1 := (unhide HB).1.1.2.1
  have p2 := (unhide HB).1.1.2.2.1
  have s0 := (unhide HB).1.2.2.1.1
  have s1 := (unhide HB).1.2.2.1.2.1
  have s2 := (unhide HB).1.2.2.1.2.2.1
  clear r0 r1 r2 f0 f1 f2
  go_wp2_with fail
  refine (iEnvOk_c a1 a2 a3 c1 c2 c3 vs fs rs lj e3 e4 d3 d4 xs2 ys2 _ ((unhide HW).call (unhide HB).bel) ((unhide HV).call (unhide HB).bel) ((unhide HF).call (unhide HB).bel) ((unhide HR).call (unhide HB).bel) (unhide HZ) ((unhide HX2).call (unhide HB).bel) ((unhide HY2).call (unhide HB).bel)).mono ?_
  rintro e u2 ⟨rfl, kb⟩
  have HB := hide ((unhide HB).call kb)
  clear kb p0 p1 p2 s0 s1 s2
  have r0 := (unhide HB).2.1
  have r1 := (unhide HB).2.2.1
  have r2 := (unhide HB).2.2.2.1
  have f0 := (unhide HB).2.2.2.2 0
  have f1 := (unhide HB).2.2.2.2 1
  have f2 := (unhide HB).2.2.2.2 2
  have q0 := (unhide HB).1.2.1.1
  cases h2 : envB vs fs rs lj xs2 ys2
  · have HN := hide (show joiL vs fs rs li xs ys lj xs2 ys2 = false ∧ widV st vs fs rs li xs ys lj xs2 ys2 = ([], []) by unfold joiL widV; rw [h2]; simp)
    clear h2
    go_wp2
    rw [(unhide HN).1, (unhide HN).2]
    exact bodyPost_ret (v := .agg #[.bool false, .slice none 0 0, .slice none 0 0]) (by simp [results, Tryd.results45, go_sem, r0, r1, r2]) rfl ⟨none, 0, none, 0, rfl, rows_nil _ _, (((unhide HB).bel.setCell (by first | exact Nat.le_add_right _ _ | (simp; done) | (simp; omega)) _).setCell (by first | exact Nat.le_add_right _ _ | (simp; done) | (simp; omega)) _).setCell (by first | exact Nat.le_add_right _ _ | (simp; done) | (simp; omega)) _⟩
  have H2 := hide h2
  clear h2
  cases li
  · have HN := hide (show joiL vs fs rs false xs ys lj xs2 ys2 = lj ∧ widV st vs fs rs false xs ys lj xs2 ys2 = (xs2, ys2) by unfold joiL widV; rw [unhide H1, unhide H2]; simp)
    have HS := hide (env_small (unhide H2))
    clear r0 r1 r2 f0 f1 f2
    go_wp2_with fail
    refine (copied_c (w.heap.size + 2) lj e3 e4 d3 d4 xs2 ys2 _ (unhide HB).1.2.2.1 ((unhide HX2).call (unhide HB).bel) ((unhide HY2).call (unhide HB).bel) (by have := unhide HS; omega)).mono ?_
    rintro e u3 ⟨oa, ca, ob, cb, rfl, hrows, kb⟩
    have z3 : w.heap.size + 3 < u2.heap.size := (unhide HB).2.lt
    have HB := hide ((unhide HB).call kb)
    have HRW := hide hrows
    clear kb hrows q0
    have r0 := (unhide HB).2.1
    have r1 := (unhide HB).2.2.1
    have r2 := (unhide HB).2.2.2.1
    have f0 := (unhide HB).2.2.2.2 0
    have f1 := (unhide HB).2.2.2.2 1
    have f2 := (unhide HB).2.2.2.2 2
    go_wp2
    rw [(unhide HN).1, (unhide HN).2]
    exact bodyPost_ret (v := .agg #[.bool lj, .slice oa xs2.length ca, .slice ob ys2.length cb]) (by simp [results, Tryd.results45, go_sem, r0, r1, r2]) rfl ⟨oa, ca, ob, cb, rfl, ((((unhide HRW).set (by omega)).set (by omega)).set (by omega)).down (by omega), (((unhide HB).bel.setCell (by first | exact Nat.le_add_right _ _ | (simp; done) | (simp; omega)) _).setCell (by first | exact Nat.le_add_right _ _ | (simp; done) | (simp; omega)) _).setCell (by first | exact Nat.le_add_right _ _ | (simp; done) | (simp; omega)) _⟩
  · have HS1 := hide (env_small (unhide H1))
    have HS2 := hide (env_small (unhide H2))
    clear r0 r1 r2 f0 f1 f2
    go_wp2_with fail
    refine (copied_c (w.heap.size + 1) true e1 e2 d1 d2 xs ys _ (unhide HB).1.2.1 ((unhide HX).call (unhide HB).bel) ((unhide HY).call (unhide HB).bel) (by have := unhide HS1; omega)).mono ?_
    rintro e u3 ⟨oa, ca, ob, cb, rfl, hrows, kb⟩
    have z3 : w.heap.size + 3 < u2.heap.size := (unhide HB).2.lt
    have zs : u2.heap.size ≤ u3.heap.size := kb.size
    have HTA : Hid ((∀ x, oa = some x → x.block < u3.heap.size) ∧ (∀ x, ob = some x → x.block < u3.heap.size)) := ⟨fun x hx => (hrows.1.lt x.block (by rw [hx]; rfl)).2, fun x hx => (hrows.2.1.lt x.block (by rw [hx]; rfl)).2⟩
    have ka := (Below.refl _ u3).alloc (Nat.le_refl _) (Obj.cells #[.bool true, .slice oa xs.length ca, .slice ob ys.length cb] 30)
    have HB := hide (((unhide HB).call kb).call ka)
    have HRW := hide (hrows.call ka)
    have HE := hide (C3.new u3 (.bool true) (.slice oa xs.length ca) (.slice ob ys.length cb) 30)
    obtain ⟨g1, ha1⟩ := hrows.at1
    obtain ⟨g2, ha2⟩ := hrows.at2
    have HA1 := hide ha1
    have HA2 := hide ha2
    clear ha1 ha2 hrows kb ka q0
    obtain ⟨B, hBB⟩ : ∃ B, B = u2.heap.size := ⟨_, rfl⟩
    rw [← hBB] at HRW z3 zs
    clear hBB
    obtain ⟨X, hX⟩ : ∃ X, X = u3.heap.size := ⟨_, rfl⟩
    obtain ⟨u4, hz⟩ : ∃ z, z = u3.alloc (Obj.cells #[.bool true, .slice oa xs.length ca, .slice ob ys.length cb] 30) := ⟨_, rfl⟩
    have hs4 : u4.heap.size = X + 1 := by rw [hz, hX]; simp
    rw [← hX, ← hz] at HE
    rw [← hz] at HB HRW
    rw [← hX] at HTA zs
    have hXZ := hide (And.intro hX hz)
    clear hX hz
    go_upto_region 6 with fail
    rw [← (unhide hXZ).1, ← (unhide hXZ).2]
    clear hXZ
    go_wp2_with fail
    refine (intervalsR_c X true oa ob g1 g2 ca cb xs.length ys.length (unhide HA1) (unhide HA2) _ (unhide HE) (by have := unhide HS1; omega)).mono ?_
    rintro e u5 ⟨pa, pc, rfl, hown, kb⟩
    have HB := hide ((unhide HB).call kb)
    have HRW := hide ((unhide HRW).call kb)
    have HE := hide ((unhide HE).call kb)
    rw [hs4] at hown
    have HO := hide hown
    have hs5 : X + 1 ≤ u5.heap.size := by have := kb.size; omega
    clear kb hown hs4
    go_wp2_with fail
    refine (intervals_c (w.heap.size + 2) lj e3 e4 d3 d4 xs2.length ys2.length _ (unhide HX2).atN (unhide HY2).atN (unhide HB).1.2.2.1 (by have := unhide HS2; omega)).mono ?_
    rintro e u6 ⟨qa, qc, rfl, hown, kb⟩
    have HB := hide ((unhide HB).call kb)
    have HRW := hide ((unhide HRW).call kb)
    have HE := hide ((unhide HE).call kb)
    have HO := hide (own_call (unhide HO) kb)
    have HO2 := hide (own_down hown hs5)
    clear kb hown hs5
    have HC := hide (unhide HB).2
    have HK := hide (unhide HB).bel
    cases lj
    · have hL0 := (unhide HS2).2.2 rfl
      have HN := hide (show joiL vs fs rs true xs ys false xs2 ys2 = true ∧ widV st vs fs rs true xs ys false xs2 ys2 = (xs, ys) by unfold joiL widV; rw [unhide H1, unhide H2]; simp)
      have e0 : ((xs2.length + ys2.length : Nat) : Int) = 0 := by omega
      have E0 := hide e0
      clear hL0 e0
      generalize xs2.length + ys2.length = L at E0 HO2 ⊢
      obtain rfl : L = 0 := by have := unhide E0; omega
      clear E0
      go_wp2
      go_loopw [32] (fun i wr => i = .int .i64 0 ∧ wr = u6) (fun i _ => 0)
      case atStart => exact ⟨rfl, rfl⟩
      case round =>
        obtain ⟨rfl, rfl⟩ := hrel
        have r0 := (unhide HC).1
        have r1 := (unhide HC).2.1
        have r2 := (unhide HC).2.2.1
        have f0 := (unhide HC).2.2.2 0
        have f1 := (unhide HC).2.2.2 1
        have f2 := (unhide HC).2.2.2 2
        have b0 := (unhide HE).1
        have b1 := (unhide HE).2.1
        have b2 := (unhide HE).2.2.1
        go_wp2
        rw [(unhide HN).1, (unhide HN).2]
        exact bodyPost_ret (v := .agg #[.bool true, .slice oa xs.length ca, .slice ob ys.length cb]) (by simp [results, Tryd.results45, go_sem, r0, r1, r2]) rfl ⟨oa, ca, ob, cb, rfl, ((((unhide HRW).set (by omega)).set (by omega)).set (by omega)).down (by omega), (((unhide HK).setCell (by first | exact Nat.le_add_right _ _ | (simp; done) | (simp; omega)) _).setCell (by first | exact Nat.le_add_right _ _ | (simp; done) | (simp; omega)) _).setCell (by first | exact Nat.le_add_right _ _ | (simp; done) | (simp; omega)) _⟩
    · have HN := hide (show joiL vs fs rs true xs ys true xs2 ys2 = true ∧ widV st vs fs rs true xs ys true xs2 ys2 = (List.zipWith (wd st) xs xs2, List.zipWith (wd st) ys ys2) by unfold joiL widV; rw [unhide H1, unhide H2]; simp)
      have HLE := hide (env_lens (unhide H1) (unhide H2) rfl rfl)
      obtain ⟨L, hL⟩ : ∃ L, L = xs2.length + ys2.length := ⟨_, rfl⟩
      have HL := hide (show L = xs2.length + ys2.length ∧ L = xs.length + ys.length ∧ L ≤ 7 by have := unhide HLE; omega)
      rw [← hL] at HO2 ⊢
      rw [show xs.length + ys.length = L from (unhide HL).2.1.symm] at HO ⊢
      have hL7 : (L : Int) ≤ 7 := by have := unhide HL; omega
      clear hL
      have HZT := hide (show (xs ++ ys).length = (xs2 ++ ys2).length by have := unhide HLE; simp; omega)
      go_wp2
      go_loopw [32] (fun i wr => ∃ (k : Nat) (xs' ys' : List (Int × Int)), k ≤ L ∧ i = .int .i64 k ∧ xs'.length = xs.length ∧ ys'.length = ys.length ∧ xs' ++ ys' = updF (wd st) (xs ++ ys) (xs2 ++ ys2) k ∧ RowsE wr B oa ca ob cb xs' ys' ∧ wr.ownsRow (X + 1) 78 1 (.slice pa L pc) L (cellsP (ptrsB g1 xs.length ++ ptrsB g2 ys.length)) ∧ wr.ownsRow (X + 1) 78 1 (.slice qa L qc) L (cellsP (ptrsN e3 xs2.length ++ ptrsN e4 ys2.length)) ∧ C3 wr X (.bool true) (.slice oa xs.length ca) (.slice ob ys.length cb) ∧ C3 wr (w.heap.size + 3) (.bool false) (.slice none 0 0) (.slice none 0 0) ∧ Below w.heap.size w wr) (fun i _ => L - (intOf i).toNat)
      case atStart => exact ⟨0, xs, ys, Nat.zero_le _, rfl, rfl, rfl, (updF_zero (wd st) _ _).symm, unhide HRW, unhide HO, unhide HO2, unhide HE, unhide HC, unhide HK⟩
      case round =>
        clear HRW HO HO2 HE HC HK HB
        obtain ⟨k, xs', ys', hk, rfl, hx1, hy1, hup, hrw, ho, ho2, he, hc, hb⟩ := hrel
        have HX1 := hide hx1
        have HY1 := hide hy1
        have HUP := hide hup
        have HRW := hide hrw
        have HO := hide ho
        have HO2 := hide ho2
        have HE := hide he
        have HC := hide hc
        have HK := hide hb
        clear hx1 hy1 hup hrw ho ho2 he hc hb
        by_cases hlt : k < L
        · have hkZ : k < (xs ++ ys).length := by have := unhide HL; simp; omega
          have hkT : k < (xs2 ++ ys2).length := by have := unhide HL; simp; omega
          have hkU : k < (xs' ++ ys').length := by have := unhide HL; have := unhide HX1; have := unhide HY1; simp; omega
          -- where the other interval stands
          obtain ⟨pb2, po2, hp2, y0, y1⟩ := ptrs_cells ((unhide HX2).call (unhide HK)) ((unhide HY2).call (unhide HK)) k hkT
          have hPt2 := (Ptrs.ofOwn (unhide HO2) (by have := unhide HL; omega)).2
          rcases hPt2.2 with h0 | ⟨qb, qo, rfl, hq⟩
          · rw [List.length_append, ptrsN_len, ptrsN_len] at h0; rw [List.length_append] at hkT; omega
          have c2 := hq k (by simp [ptrsN_len, ptrsB_len]; simp at hkT; omega)
          have hp2' : (ptrsN e3 xs2.length ++ ptrsN e4 ys2.length)[k]'(by simp [ptrsN_len, ptrsB_len]; simp at hkT; omega) = ⟨pb2, po2, none⟩ := by
            have := hp2
            rw [List.getElem?_eq_getElem (by simp [ptrsN_len, ptrsB_len]; simp at hkT; omega)] at this
            exact Option.some.inj this
          rw [hp2'] at c2
          -- where the own one stands
          obtain ⟨pb, po, hp1, hor, hB1, hB2, t0, t1, tf, _⟩ := (unhide HRW).writeAt (g1 := g1) (g2 := g2) (by rw [unhide HX1]; exact unhide HA1) (by rw [unhide HY1]; exact unhide HA2) k hkU (0, 0)
          have hPt1 := (Ptrs.ofOwn (unhide HO) (by have := unhide HL; omega)).2
          rcases hPt1.2 with h0 | ⟨rb, ro, rfl, hq1⟩
          · rw [List.length_append, ptrsB_len, ptrsB_len] at h0; rw [List.length_append] at hkZ; omega
          have c1 := hq1 k (by simp [ptrsN_len, ptrsB_len]; simp at hkZ; omega)
          have hp1' : (ptrsB g1 xs.length ++ ptrsB g2 ys.length)[k]'(by simp [ptrsN_len, ptrsB_len]; simp at hkZ; omega) = ⟨pb, po, none⟩ := by
            have := hp1
            rw [unhide HX1, unhide HY1] at this
            rw [List.getElem?_eq_getElem (by simp [ptrsN_len, ptrsB_len]; simp at hkZ; omega)] at this
            exact Option.some.inj this
          rw [hp1'] at c1
          have hv : (xs' ++ ys')[k] = (xs ++ ys)[k] := (List.getElem_of_eq (unhide HUP) hkU).trans (updF_at (wd st) (xs ++ ys) (xs2 ++ ys2) k (unhide HZT) hkZ)
          rw [hv] at t0 t1
          have HV' := hide hv
          have HP1 := hide hp1
          have HOR := hide hor
          clear hq hq1 hPt1 hPt2 hp2 hp2' hp1 hp1' hor hv tf
          obtain ⟨x, hxx⟩ : ∃ x, x = (xs ++ ys)[k].1 := ⟨_, rfl⟩
          obtain ⟨y, hyy⟩ : ∃ y, y = (xs ++ ys)[k].2 := ⟨_, rfl⟩
          obtain ⟨x2, hxx2⟩ : ∃ x, x = (xs2 ++ ys2)[k].1 := ⟨_, rfl⟩
          obtain ⟨y2, hyy2⟩ : ∃ y, y = (xs2 ++ ys2)[k].2 := ⟨_, rfl⟩
          rw [← hxx] at t0
          rw [← hyy] at t1
          rw [← hxx2] at y0
          rw [← hyy2] at y1
          have HXX := hide (show wd st (xs ++ ys)[k] (xs2 ++ ys2)[k] = (widL x y x2 y2 st, widH x y x2 y2 st) by unfold wd; rw [hxx, hyy, hxx2, hyy2])
          clear hxx hyy hxx2 hyy2
          have hlt' : (k : Int) < (L : Int) := by omega
          go_wp2_with fail
          have HPX : Hid (pb < X ∧ w.heap.size + 3 < pb) := by
            rcases unhide HOR with q | q
            · exact ⟨(unhide HTA).1 _ q, by omega⟩
            · exact ⟨(unhide HTA).2 _ q, by omega⟩
          clear hB1 hB2
          go_region_with (go_at_call 55; refine (wid1_c _ _ _ _ sb sa sc st _ (((unhide HK).drew.cell (by exact World.block_lt_of_cell? _ _ (unhide HST))).trans (unhide HST)) ((unhide HZS).call (unhide HK).drew)).mono ?_; rintro e w1 ⟨rfl, hb⟩; have c3 := ((bel_dr hb).cell (World.block_lt_of_cell? wr _ c1)).trans c1; obtain ⟨⟨v0, v1, t3, t4⟩, tf, hJ⟩ := join_step (bel_dr hb) (unhide HRW) (by rw [unhide HX1]; exact unhide HA1) (by rw [unhide HY1]; exact unhide HA2) hkU (unhide HP1) (widL x y x2 y2 st, widH x y x2 y2 st) (unhide HO) (unhide HO2) (unhide HE) (unhide HC) (unhide HK) (unhide HPX).1 (unhide HPX).2; have f3 := tf po; have f4 := tf (po + 1); have HJ := hide hJ; clear tf hJ hb)
          all_goals
            clear c1 c2 c3 t0 t1 t3 t4 y0 y1 f3 f4
            go_wp2
            go_roundw
            case rel =>
              obtain ⟨xs'', ys'', l1, l2, e4, h5, h6, h7, h8, h9, h10⟩ := unhide HJ
              exact ⟨k + 1, xs'', ys'', by omega, by go_num, l1.trans (unhide HX1), l2.trans (unhide HY1), by rw [e4, unhide HUP, ← unhide HXX]; exact updF_set (wd st) (xs ++ ys) (xs2 ++ ys2) k (unhide HZT) hkZ, h5, h6, h7, h8, h9, h10⟩
            case measure => simp [intOf]; omega
        · obtain rfl : k = L := by omega
          have hr0 := unhide HRW
          have r0 := (unhide HC).1
          have r1 := (unhide HC).2.1
          have r2 := (unhide HC).2.2.1
          have f0 := (unhide HC).2.2.2 0
          have f1 := (unhide HC).2.2.2 1
          have f2 := (unhide HC).2.2.2 2
          have b0 := (unhide HE).1
          have b1 := (unhide HE).2.1
          have b2 := (unhide HE).2.2.1
          have EX : Hid (xs' = List.zipWith (wd st) xs xs2 ∧ ys' = List.zipWith (wd st) ys ys2) := by
            have hu := unhide HUP
            rw [show k = (xs ++ ys).length by rw [List.length_append]; exact (unhide HL).2.1, updF_all (wd st) _ _ (unhide HZT), List.zipWith_append (by have := unhide HLE; omega)] at hu
            exact List.append_inj hu (by rw [unhide HX1]; simp; have := unhide HLE; omega)
          have HRZ : Hid (RowsE wr B oa ca ob cb (List.zipWith (wd st) xs xs2) (List.zipWith (wd st) ys ys2)) := by unfold Hid; rw [← (unhide EX).1, ← (unhide EX).2]; exact hr0
          have EL : Hid ((List.zipWith (wd st) xs xs2).length = xs.length ∧ (List.zipWith (wd st) ys ys2).length = ys.length) := by
            rw [← (unhide EX).1, ← (unhide EX).2]
            exact ⟨unhide HX1, unhide HY1⟩
          clear hr0
          go_wp2
          rw [(unhide HN).1, (unhide HN).2, show (List.zipWith (wd st) xs xs2, List.zipWith (wd st) ys ys2).1.length = xs.length from (unhide EL).1, show (List.zipWith (wd st) xs xs2, List.zipWith (wd st) ys ys2).2.length = ys.length from (unhide EL).2]
          exact bodyPost_ret (v := .agg #[.bool true, .slice oa xs.length ca, .slice ob ys.length cb]) (by simp [results, Tryd.results45, go_sem, r0, r1, r2]) rfl ⟨oa, ca, ob, cb, rfl, ((((unhide HRZ).set (by omega)).set (by omega)).set (by omega)).down (by omega), (((unhide HK).setCell (by first | exact Nat.le_add_right _ _ | (simp; done) | (simp; omega)) _).setCell (by first | exact Nat.le_add_right _ _ | (simp; done) | (simp; omega)) _).setCell (by first | exact Nat.le_add_right _ _ | (simp; done) | (simp; omega)) _⟩
end Go.Proofs.YtoipaejbkcdioaaDoor

/- Widened bounds: the program's function. -/
namespace Go.Proofs.YtoipaejbkcdioaaDoor
open Go.RowKit
set_option linter.unusedSimpArgs false
set_option linter.unusedVariables false

/-- Three structs of three cells, a row's place and one struct that is zero. -/
def Q7 (w0 : World) (x0 y0 z0 x1 y1 z1 x2 y2 z2 s : Value) (u : World) : Prop := B3 w0 w0.heap.size x0 y0 z0 x1 y1 z1 x2 y2 z2 u ∧ (u.cell? ⟨w0.heap.size + 3, 0, none⟩ = some s ∧ w0.heap.size + 3 < u.heap.size) ∧ C3 u (w0.heap.size + 4) (.bool false) (.slice none 0 0) (.slice none 0 0)
theorem Q7.call {w0 u v : World} {x0 y0 z0 x1 y1 z1 x2 y2 z2 s : Value} (h : Q7 w0 x0 y0 z0 x1 y1 z1 x2 y2 z2 s u) (hb : Below u.heap.size u v) : Q7 w0 x0 y0 z0 x1 y1 z1 x2 y2 z2 s v := ⟨h.1.call hb, ⟨(hb.cell (by exact h.2.1.2)).trans h.2.1.1, Nat.lt_of_lt_of_le h.2.1.2 hb.size⟩, h.2.2.call hb⟩
theorem Q7.bel {w0 u : World} {x0 y0 z0 x1 y1 z1 x2 y2 z2 s : Value} (h : Q7 w0 x0 y0 z0 x1 y1 z1 x2 y2 z2 s u) : Below w0.heap.size w0 u := h.1.2.2.2
theorem Q7.new (w : World) (x0 y0 z0 x1 y1 z1 x2 y2 z2 s : Value) (t0 t1 t2 t3 t4 : TypeId) : Q7 w x0 y0 z0 x1 y1 z1 x2 y2 z2 s (((((w.alloc (Obj.cells #[x0, y0, z0] t0)).alloc (Obj.cells #[x1, y1, z1] t1)).alloc (Obj.cells #[x2, y2, z2] t2)).alloc (Obj.cells #[s] t3)).alloc (Obj.cells #[.bool false, .slice none 0 0, .slice none 0 0] t4)) := by
  have h := B3.new w x0 y0 z0 x1 y1 z1 x2 y2 z2 t0 t1 t2
  have k := C3.new ((((w.alloc (Obj.cells #[x0, y0, z0] t0)).alloc (Obj.cells #[x1, y1, z1] t1)).alloc (Obj.cells #[x2, y2, z2] t2)).alloc (Obj.cells #[s] t3)) (.bool false) (.slice none 0 0) (.slice none 0 0) t4
  rw [show ((((w.alloc (Obj.cells #[x0, y0, z0] t0)).alloc (Obj.cells #[x1, y1, z1] t1)).alloc (Obj.cells #[x2, y2, z2] t2)).alloc (Obj.cells #[s] t3)).heap.size = w.heap.size + 4 by simp] at k
  exact ⟨h.call (((Below.refl _ _).alloc (Nat.le_refl _) _).alloc (by simp) _), ⟨by simp [go_sem], by simp⟩, k⟩
set_option maxRecDepth 20000 in
set_option maxHeartbeats 2000000 in
theorem iEnvWiden_c (a1 a2 a3 : Option Addr) (c1 c2 c3 : Nat) (vs fs : List ByteArray) (rs : List (ByteArray × Int)) (li : Bool) (e1 e2 : Option Addr) (d1 d2 : Nat) (xs ys : List (Int × Int)) (lj : Bool) (e3 e4 : Option Addr) (d3 d4 : Nat) (xs2 ys2 : List (Int × Int)) (sa : Option Addr) (sc : Nat) (st : List Int) (w : World) (hw : KW w) (hv : Strs w a1 vs) (hf : Strs w a2 fs) (hr : Arrs w a3 rs)
    (hz : ∀ x ∈ namesOf vs fs rs, x.size ≤ 1048576) (hx : Ivs w e1 xs) (hy : Ivs w e2 ys) (hx2 : Ivs w e3 xs2) (hy2 : Ivs w e4 ys2) (hzs : Ints w sa st) :
    Calls Tryd.prog 23 #[.agg #[.slice a1 vs.length c1, .slice a2 fs.length c2, .slice a3 rs.length c3], .agg #[.bool li, .slice e1 xs.length d1, .slice e2 ys.length d2], .agg #[.bool lj, .slice e3 xs2.length d3, .slice e4 ys2.length d4], .slice sa st.length sc] w
    fun e w' => ∃ oa ca ob cb, e = .returned (.agg #[.bool (wdnL st vs fs rs li xs ys lj xs2 ys2), .slice oa (wdnV st vs fs rs li xs ys lj xs2 ys2).1.length ca, .slice ob (wdnV st vs fs rs li xs ys lj xs2 ys2).2.length cb]) ∧ RowsE w' w.heap.size oa ca ob cb (wdnV st vs fs rs li xs ys lj xs2 ys2).1 (wdnV st vs fs rs li xs ys lj xs2 ys2).2 ∧ Below w.heap.size w w' := by
  have hmf : ∀ (fn : Fn) (first cap : Array Value) (w : World), (Instr.makeFunc fn first cap).run Tryd.prog w = .ok (.func fn first cap) w := fun _ _ _ _ => rfl
  have HW := hide hw
  have HV := hide hv
  have HF := hide hf
  have HR := hide hr
  have HZ := hide hz
  have HX := hide hx
  have HY := hide hy
  have HX2 := hide hx2
  have HY2 := hide hy2
  have HZS := hide hzs
  have hl : (st.length : Int) ≤ 1048576 := by have := hzs.1; omega
  have HB := hide (Q7.new w (.slice a1 vs.length c1) (.slice a2 fs.length c2) (.slice a3 rs.length c3) (.bool li) (.slice e1 xs.length d1) (.slice e2 ys.length d2) (.bool lj) (.slice e3 xs2.length d3) (.slice e4 ys2.length d4) (.slice sa st.length sc) 27 30 30 33 30)
  clear hw hv hf hr hz hx hy hx2 hy2 hzs
  go_enter Tryd.func23, Tryd.ntmps23
  go_upto_region 1 with fail
  generalize ((((w.alloc (Obj.cells #[.slice a1 vs.length c1, .slice a2 fs.length c2, .slice a3 rs.length c3] 27)).alloc (Obj.cells #[.bool li, .slice e1 xs.length d1, .slice e2 ys.length d2] 30)).alloc (Obj.cells #[.bool lj, .slice e3 xs2.length d3, .slice e4 ys2.length d4] 30)).alloc (Obj.cells #[.slice sa st.length sc] 33)).alloc (Obj.cells #[.bool false, .slice none 0 0, .slice none 0 0] 30) = u at HB ⊢
  have m0 := (unhide HB).2.1.1
  by_cases hm : st.length ≤ 100
  · have HN := hide (wdn_few (vs := vs) (fs := fs) (rs := rs) (li := li) (lj := lj) (xs := xs) (ys := ys) (xs2 := xs2) (ys2 := ys2) hm)
    have hm' : ¬ ((100 : Int) < (st.length : Int)) := by omega
    clear hm
    have p0 := (unhide HB).1.1.1
    have p1 := (unhide HB).1.1.2.1
    have p2 := (unhide HB).1.1.2.2.1
    have q0 := (unhide HB).1.2.1.1
    have q1 := (unhide HB).1.2.1.2.1
    have q2 := (unhide HB).1.2.1.2.2.1
    have s0 := (unhide HB).1.2.2.1.1
    have s1 := (unhide HB).1.2.2.1.2.1
    have s2 := (unhide HB).1.2.2.1.2.2.1
    go_wp2_with fail
    refine (joinedByW_c (w.heap.size + 3) sa sc st a1 a2 a3 c1 c2 c3 vs fs rs li e1 e2 d1 d2 xs ys lj e3 e4 d3 d4 xs2 ys2 _ (unhide HB).2.1.1 ((unhide HZS).call (unhide HB).bel) ((unhide HW).call (unhide HB).bel) ((unhide HV).call (unhide HB).bel) ((unhide HF).call (unhide HB).bel) ((unhide HR).call (unhide HB).bel) (unhide HZ) ((unhide HX).call (unhide HB).bel) ((unhide HY).call (unhide HB).bel) ((unhide HX2).call (unhide HB).bel) ((unhide HY2).call (unhide HB).bel)).mono ?_
    rintro e u1 ⟨oa, ca, ob, cb, rfl, hrows, kb⟩
    have z3 : w.heap.size + 4 < u.heap.size := (unhide HB).2.2.lt
    have HB := hide ((unhide HB).call kb)
    have HRW := hide hrows
    clear kb hrows p0 p1 p2 q0 q1 q2 s0 s1 s2 m0
    have r0 := (unhide HB).2.2.1
    have r1 := (unhide HB).2.2.2.1
    have r2 := (unhide HB).2.2.2.2.1
    have f0 := (unhide HB).2.2.2.2.2 0
    have f1 := (unhide HB).2.2.2.2.2 1
    have f2 := (unhide HB).2.2.2.2.2 2
    go_wp2
    rw [(unhide HN).1, (unhide HN).2]
    exact bodyPost_ret (v := .agg #[.bool (joiL vs fs rs li xs ys lj xs2 ys2), .slice oa (widV st vs fs rs li xs ys lj xs2 ys2).1.length ca, .slice ob (widV st vs fs rs li xs ys lj xs2 ys2).2.length cb]) (by simp [results, Tryd.results23, go_sem, r0, r1, r2]) rfl ⟨oa, ca, ob, cb, rfl, ((((unhide HRW).set (b := w.heap.size + 4) z3).set (b := w.heap.size + 4) z3).set (b := w.heap.size + 4) z3).down (B' := w.heap.size) (by omega), (((unhide HB).bel.setCell (by first | exact Nat.le_add_right _ _ | (simp; done) | (simp; omega)) _).setCell (by first | exact Nat.le_add_right _ _ | (simp; done) | (simp; omega)) _).setCell (by first | exact Nat.le_add_right _ _ | (simp; done) | (simp; omega)) _⟩
  · have HN := hide (wdn_many (vs := vs) (fs := fs) (rs := rs) (li := li) (lj := lj) (xs := xs) (ys := ys) (xs2 := xs2) (ys2 := ys2) hm)
    have hm' : (100 : Int) < (st.length : Int) := by omega
    clear hm
    have r0 := (unhide HB).2.2.1
    have r1 := (unhide HB).2.2.2.1
    have r2 := (unhide HB).2.2.2.2.1
    have f0 := (unhide HB).2.2.2.2.2 0
    have f1 := (unhide HB).2.2.2.2.2 1
    have f2 := (unhide HB).2.2.2.2.2 2
    go_wp2
    rw [(unhide HN).1, (unhide HN).2]
    exact bodyPost_ret (v := .agg #[.bool false, .slice none 0 0, .slice none 0 0]) (by simp [results, Tryd.results23, go_sem, r0, r1, r2]) rfl ⟨none, 0, none, 0, rfl, rows_nil _ _, (((unhide HB).bel.setCell (by first | exact Nat.le_add_right _ _ | (simp; done) | (simp; omega)) _).setCell (by first | exact Nat.le_add_right _ _ | (simp; done) | (simp; omega)) _).setCell (by first | exact Nat.le_add_right _ _ | (simp; done) | (simp; omega)) _⟩
end Go.Proofs.YtoipaejbkcdioaaDoor

/- Widened bounds: the specification's function. -/
namespace Go.Proofs.YtoipaejbkcdioaaDoor
open Go.RowKit
set_option linter.unusedSimpArgs false
set_option linter.unusedVariables false

def wsV (st : List Int) (li lj : Bool) (xs ys xs2 ys2 : List (Int × Int)) : List (Int × Int) × List (Int × Int) :=
  match li, lj with
  | false, _ => (xs2, ys2)
  | true, false => (xs, ys)
  | true, true => (List.zipWith (wd st) xs xs2, List.zipWith (wd st) ys ys2)
theorem wd_snoc (st : List Int) (zs zt : List (Int × Int)) (k : Nat) (h : k < zs.length) (h2 : k < zt.length) : cellsV ((List.zipWith (wd st) zs zt).take k) ++ [.int .i64 (widL zs[k].1 zs[k].2 zt[k].1 zt[k].2 st), .int .i64 (widH zs[k].1 zs[k].2 zt[k].1 zt[k].2 st)] = cellsV ((List.zipWith (wd st) zs zt).take (k + 1)) := by
  rw [List.take_succ_eq_append_getElem (by simp; omega), cellsV_app, List.getElem_zipWith]
  rfl
theorem wid_ws {st : List Int} {vs fs : List ByteArray} {rs : List (ByteArray × Int)} {li lj : Bool} {xs ys xs2 ys2 : List (Int × Int)} (h : envB vs fs rs li xs ys = true) (h2 : envB vs fs rs lj xs2 ys2 = true) : joiL vs fs rs li xs ys lj xs2 ys2 = (li || lj) ∧ widV st vs fs rs li xs ys lj xs2 ys2 = wsV st li lj xs ys xs2 ys2 := by
  unfold joiL widV
  rw [h, h2]
  refine ⟨by simp, ?_⟩
  cases li
  · simp [wsV]
  · cases lj
    · simp [wsV]
    · simp [wsV]
set_option maxRecDepth 20000 in
set_option maxHeartbeats 8000000 in
theorem l6Widen_c (li : Bool) (e1 e2 : Option Addr) (d1 d2 : Nat) (xs ys : List (Int × Int)) (lj : Bool) (e3 e4 : Option Addr) (d3 d4 : Nat) (xs2 ys2 : List (Int × Int)) (sa : Option Addr) (sc : Nat) (st : List Int) (w : World) (hzs : Ints w sa st)
    (hx : Ivs w e1 xs) (hy : Ivs w e2 ys) (hx2 : Ivs w e3 xs2) (hy2 : Ivs w e4 ys2)
    (hl0 : xs.length ≤ 1000 ∧ ys.length ≤ 1000 ∧ xs2.length ≤ 1000 ∧ ys2.length ≤ 1000) (hl : li = true → lj = true → xs.length = xs2.length ∧ ys.length = ys2.length ∧ xs.length + ys.length ≤ 7) :
    Calls Tryd.prog 57 #[.agg #[.bool li, .slice e1 xs.length d1, .slice e2 ys.length d2], .agg #[.bool lj, .slice e3 xs2.length d3, .slice e4 ys2.length d4], .slice sa st.length sc] w
    fun e w' => ∃ oa ca ob cb, e = .returned (.agg #[.bool (li || lj), .slice oa (wsV st li lj xs ys xs2 ys2).1.length ca, .slice ob (wsV st li lj xs ys xs2 ys2).2.length cb]) ∧ RowsE w' w.heap.size oa ca ob cb (wsV st li lj xs ys xs2 ys2).1 (wsV st li lj xs ys xs2 ys2).2 ∧ Below w.heap.size w w' := by
  have HZS := hide hzs
  have HX := hide hx
  have HY := hide hy
  have HX2 := hide hx2
  have HY2 := hide hy2
  have HL0 := hide hl0
  have HB := hide (Q6.new w (.bool li) (.slice e1 xs.length d1) (.slice e2 ys.length d2) (.bool lj) (.slice e3 xs2.length d3) (.slice e4 ys2.length d4) 30 30 30)
  clear hzs hx hy hx2 hy2 hl0
  obtain ⟨inf, hi, hz0, hz1, hz2⟩ := info_parts ivInfo
  go_enter Tryd.func57, Tryd.ntmps57
  go_upto_region 1 with fail
  generalize ((w.alloc (Obj.cells #[.bool li, .slice e1 xs.length d1, .slice e2 ys.length d2] 30)).alloc (Obj.cells #[.bool lj, .slice e3 xs2.length d3, .slice e4 ys2.length d4] 30)).alloc (Obj.cells #[.bool false, .slice none 0 0, .slice none 0 0] 30) = u at HB ⊢
  have z3 : w.heap.size + 2 < u.heap.size := (unhide HB).2.2.1.lt
  have p0 := (unhide HB).1.1
  have p1 := (unhide HB).1.2.1
  have p2 := (unhide HB).1.2.2.1
  have q0 := (unhide HB).2.1.1
  have q1 := (unhide HB).2.1.2.1
  have q2 := (unhide HB).2.1.2.2.1
  cases li
  · go_wp2_with fail
    refine (l6Join_c false e1 e2 d1 d2 xs ys lj e3 e4 d3 d4 xs2 ys2 _ ((unhide HX).call (unhide HB).2.2.2) ((unhide HY).call (unhide HB).2.2.2) ((unhide HX2).call (unhide HB).2.2.2) ((unhide HY2).call (unhide HB).2.2.2) (unhide HL0) (fun h => by cases h)).mono ?_
    rintro e u1 ⟨oa, ca, ob, cb, rfl, hrows, kb⟩
    have HB := hide ((unhide HB).call kb)
    have HRW := hide hrows
    clear kb hrows p0 p1 p2 q0 q1 q2
    have r0 := (unhide HB).2.2.1.1
    have r1 := (unhide HB).2.2.1.2.1
    have r2 := (unhide HB).2.2.1.2.2.1
    have f0 := (unhide HB).2.2.1.2.2.2 0
    have f1 := (unhide HB).2.2.1.2.2.2 1
    have f2 := (unhide HB).2.2.1.2.2.2 2
    go_wp2
    exact bodyPost_ret (v := .agg #[.bool (false || lj), .slice oa (jsV false lj xs ys xs2 ys2).1.length ca, .slice ob (jsV false lj xs ys xs2 ys2).2.length cb]) (by simp [results, Tryd.results57, go_sem, r0, r1, r2]) rfl ⟨oa, ca, ob, cb, rfl, ((((unhide HRW).set (b := w.heap.size + 2) z3).set (b := w.heap.size + 2) z3).set (b := w.heap.size + 2) z3).down (B' := w.heap.size) (by omega), (((unhide HB).2.2.2.setCell (by first | exact Nat.le_add_right _ _ | (simp; done) | (simp; omega)) _).setCell (by first | exact Nat.le_add_right _ _ | (simp; done) | (simp; omega)) _).setCell (by first | exact Nat.le_add_right _ _ | (simp; done) | (simp; omega)) _⟩
  cases lj
  · go_wp2_with fail
    refine (l6Join_c true e1 e2 d1 d2 xs ys false e3 e4 d3 d4 xs2 ys2 _ ((unhide HX).call (unhide HB).2.2.2) ((unhide HY).call (unhide HB).2.2.2) ((unhide HX2).call (unhide HB).2.2.2) ((unhide HY2).call (unhide HB).2.2.2) (unhide HL0) (fun _ h => by cases h)).mono ?_
    rintro e u1 ⟨oa, ca, ob, cb, rfl, hrows, kb⟩
    have HB := hide ((unhide HB).call kb)
    have HRW := hide hrows
    clear kb hrows p0 p1 p2 q0 q1 q2
    have r0 := (unhide HB).2.2.1.1
    have r1 := (unhide HB).2.2.1.2.1
    have r2 := (unhide HB).2.2.1.2.2.1
    have f0 := (unhide HB).2.2.1.2.2.2 0
    have f1 := (unhide HB).2.2.1.2.2.2 1
    have f2 := (unhide HB).2.2.1.2.2.2 2
    go_wp2
    exact bodyPost_ret (v := .agg #[.bool (true || false), .slice oa (jsV true false xs ys xs2 ys2).1.length ca, .slice ob (jsV true false xs ys xs2 ys2).2.length cb]) (by simp [results, Tryd.results57, go_sem, r0, r1, r2]) rfl ⟨oa, ca, ob, cb, rfl, ((((unhide HRW).set (b := w.heap.size + 2) z3).set (b := w.heap.size + 2) z3).set (b := w.heap.size + 2) z3).down (B' := w.heap.size) (by omega), (((unhide HB).2.2.2.setCell (by first | exact Nat.le_add_right _ _ | (simp; done) | (simp; omega)) _).setCell (by first | exact Nat.le_add_right _ _ | (simp; done) | (simp; omega)) _).setCell (by first | exact Nat.le_add_right _ _ | (simp; done) | (simp; omega)) _⟩
  have HL := hide (hl rfl rfl)
  have hL := (hl rfl rfl).2.2
  clear hl
  have HXY := hide (show List.zipWith (wd st) (xs ++ ys) (xs2 ++ ys2) = List.zipWith (wd st) xs xs2 ++ List.zipWith (wd st) ys ys2 from List.zipWith_append (unhide HL).1)
  have HXL := hide (show (List.zipWith (wd st) xs xs2).length = xs.length ∧ (List.zipWith (wd st) ys ys2).length = ys.length by have := unhide HL; simp; omega)
  have HJ := hide (show wsV st true true xs ys xs2 ys2 = (List.zipWith (wd st) xs xs2, List.zipWith (wd st) ys ys2) from rfl)
  go_wp2_with fail
  refine (l6List_c true e1 e2 d1 d2 xs ys _ ((unhide HX).call (unhide HB).2.2.2) ((unhide HY).call (unhide HB).2.2.2) (by omega)).mono ?_
  rintro e u2 ⟨oa, cap, rfl, R, kb⟩
  have HR2 := hide R
  have zu2 : w.heap.size + 2 < u2.heap.size := Nat.lt_of_lt_of_le z3 kb.size
  have HB := hide ((unhide HB).call kb)
  clear R kb p0 p1 p2 q0 q1 q2 z3
  have q0 := (unhide HB).2.1.1
  have q1 := (unhide HB).2.1.2.1
  have q2 := (unhide HB).2.1.2.2.1
  go_wp2_with fail
  refine (l6List_c true e3 e4 d3 d4 xs2 ys2 _ ((unhide HX2).call (unhide HB).2.2.2) ((unhide HY2).call (unhide HB).2.2.2) (by have := unhide HL; omega)).mono ?_
  rintro e u3 ⟨ob, cap2, rfl, R, kb⟩
  have HR3 := hide R
  have HR2 := hide ((unhide HR2).call kb)
  have z3 : w.heap.size + 2 < u3.heap.size := Nat.lt_of_lt_of_le zu2 kb.size
  have HB := hide ((unhide HB).call kb)
  clear R kb q0 q1 q2 HX HY HX2 HY2 zu2
  have HN := hide (show xs.length + ys.length = (xs ++ ys).length by rw [List.length_append])
  have HM := hide (show xs.length + ys.length = (xs2 ++ ys2).length by rw [List.length_append]; have := unhide HL; omega)
  rw [show xs2.length + ys2.length = xs.length + ys.length by have := unhide HL; omega]
  generalize xs ++ ys = zs at HXY HR2 HN ⊢
  generalize xs2 ++ ys2 = zt at HXY HR3 HM ⊢
  have HLL := hide (Eq.refl (xs.length + ys.length))
  generalize hLe : xs.length + ys.length = L at hL HN HM ⊢
  have HLE := hide hLe
  clear hLe HLL
  have hL' : (L : Int) ≤ 7 := by omega
  go_wp2
  go_loopw [9, 10] (fun l i wr => ∃ (k g cap : Nat), k ≤ L ∧ i = .int .i64 k ∧ l = .slice (some ⟨g, 0, none⟩) k cap ∧ wr.ownsRow u3.heap.size 67 2 (.slice (some ⟨g, 0, none⟩) k cap) k (cellsV ((List.zipWith (wd st) zs zt).take k)) ∧ Below u3.heap.size u3 wr) (fun _ i _ => L - (intOf i).toNat)
  case atStart => exact ⟨0, u3.heap.size, 0, Nat.zero_le _, rfl, rfl, rowV u3 u3.heap.size (Nat.le_refl _), (Below.refl _ _).alloc (Nat.le_refl _) _⟩
  case round =>
    obtain ⟨k, g, cp, hk, rfl, rfl, ho, hb⟩ := hrel
    have HO := hide ho
    have HD := hide hb
    have HZW := hide ((unhide HZS).call ((unhide HB).2.2.2.trans (hb.mono (unhide HB).2.2.2.size)))
    clear ho
    by_cases hlt : k < L
    · have hk' : k < zs.length := by rw [← unhide HN]; exact hlt
      have hm' : k < zt.length := by rw [← unhide HM]; exact hlt
      rcases (unhide HR2).2 with h0 | ⟨cb, co, rfl, hc⟩
      · omega
      rcases (unhide HR3).2 with h0 | ⟨cb2, co2, rfl, hc2⟩
      · omega
      have c4 : u3.cell? ⟨cb, co + k * 2, none⟩ = some (.int .i64 zs[k].1) ∧ u3.cell? ⟨cb, co + k * 2 + 1, none⟩ = some (.int .i64 zs[k].2) ∧ u3.cell? ⟨cb2, co2 + k * 2, none⟩ = some (.int .i64 zt[k].1) ∧ u3.cell? ⟨cb2, co2 + k * 2 + 1, none⟩ = some (.int .i64 zt[k].2) := ⟨(hc k hk').1, (hc k hk').2, (hc2 k hm').1, (hc2 k hm').2⟩
      have HT := hide (wd_snoc st zs zt k hk' hm')
      clear hc hc2
      have hs := SJ.of c4 hb
      clear c4 hb
      generalize zs[k].1 = x at hs HT
      generalize zs[k].2 = y at hs HT
      generalize zt[k].1 = x2 at hs HT
      generalize zt[k].2 = y2 at hs HT
      have hlt' : (k : Int) < (L : Int) := by omega
      have zw := (unhide HD).size
      go_wp2_with fail
      go_region_held3 (SJ u3 ⟨cb, co + k * 2, none⟩ ⟨cb, co + k * 2 + 1, none⟩ ⟨cb2, co2 + k * 2, none⟩ ⟨cb2, co2 + k * 2 + 1, none⟩ (.int .i64 x) (.int .i64 y) (.int .i64 x2) (.int .i64 y2))
        (first | exact SJ.drew (by assumption) | exact SJ.alloc (by assumption) _ | exact hs2 | exact hs4)
        (first
          | (go_at_call 80; refine (sIvWiden_c _ _ _ _ _ _ st _ ((unhide HZW).call (Below.refl _ wr).drew)).mono ?_; rintro e u4 ⟨rfl, kb⟩; have hs2 := SJ.call kb (SJ.drew hs); have kq := (Below.refl wr.heap.size wr).drew.trans kb)
          | (refine step_app _ (by rfl) _ _ _ (by rfl) u3.heap.size 67 inf (.agg #[.int .i64 0, .int .i64 0]) 2 16 Tryd.underlying28 hi hz0 hz1 hz2 rfl (by decide) _ _ _ (by rfl) ((own_call (unhide HO) kq).alloc _) ⟨_, 0, none⟩ 1 1 [.int .i64 (widL x y x2 y2 st), .int .i64 (widH x y x2 y2 st)] (by rfl) rfl (World.news_of_block (heap_alloc_new _ _)) (one2 _ _) (by unfold maxLen; omega) (by omega) (by have := kq.size; simp; omega) ?_; intro oa' cap' w5 hown hgrow; have hs4 := SJ.grown (SJ.alloc hs2 _) ((own_call (unhide HO) kq).alloc _) hgrow))
      rename_i hHeld
      obtain ⟨g', rfl⟩ := own_atJ hown (by omega)
      have HO5 := hide hown
      have HD5 := hide hs4.bel
      rw [unhide HT] at HO5
      clear hHeld hs hs2 hs4 hown hgrow kq kb
      go_wp2
      go_roundw
      case rel => exact ⟨k + 1, g', cap', by omega, by go_num, rfl, unhide HO5, unhide HD5⟩
      case measure => simp [intOf]; omega
    · obtain rfl : L = k := by omega
      have HOC := own_capJ (unhide HO)
      have HIV := hide (show Ivs wr (some ⟨g, 0, none⟩) (List.zipWith (wd st) xs xs2 ++ List.zipWith (wd st) ys ys2) by
        have h := unhide HO
        rw [List.take_of_length_le (by rw [List.length_zipWith, ← unhide HN, ← unhide HM]; omega), unhide HXY] at h
        exact (Ivs.ofOwn h (by omega)).2)
      have z5 : w.heap.size + 2 < wr.heap.size := Nat.lt_of_lt_of_le z3 hb.size
      have HB := hide ((unhide HB).call hb)
      clear hb HO HD HR2 HR3
      have p1 := (unhide HB).1.2.1
      go_wp2_with fail
      have hof := l6Of_c g cp L (List.zipWith (wd st) xs xs2) (List.zipWith (wd st) ys ys2) wr (unhide HIV) (by have := unhide HXL; have := unhide HLE; omega) (by have := unhide HXL; have := unhide HLE; omega) (by have := unhide HXL; have := unhide HL0; omega)
      rw [(unhide HXL).1, (unhide HXL).2] at hof
      refine hof.mono ?_
      rintro e u6 ⟨oc, cc, od, cd, rfl, hrows, kb⟩
      have HB := hide ((unhide HB).call kb)
      have HRW := hide hrows
      clear kb hrows p1 hof
      have r0 := (unhide HB).2.2.1.1
      have r1 := (unhide HB).2.2.1.2.1
      have r2 := (unhide HB).2.2.1.2.2.1
      have f0 := (unhide HB).2.2.1.2.2.2 0
      have f1 := (unhide HB).2.2.1.2.2.2 1
      have f2 := (unhide HB).2.2.1.2.2.2 2
      go_wp2
      exact bodyPost_ret (v := .agg #[.bool true, .slice oc xs.length cc, .slice od ys.length cd]) (by simp [results, Tryd.results57, go_sem, r0, r1, r2]) rfl ⟨oc, cc, od, cd, by rw [unhide HJ, (unhide HXL).1, (unhide HXL).2]; rfl, ((((unhide HRW).set (b := w.heap.size + 2) z5).set (b := w.heap.size + 2) z5).set (b := w.heap.size + 2) z5).down (B' := w.heap.size) (by omega), (((unhide HB).2.2.2.setCell (by first | exact Nat.le_add_right _ _ | (simp; done) | (simp; omega)) _).setCell (by first | exact Nat.le_add_right _ _ | (simp; done) | (simp; omega)) _).setCell (by first | exact Nat.le_add_right _ _ | (simp; done) | (simp; omega)) _⟩
set_option maxRecDepth 20000 in
set_option maxHeartbeats 8000000 in
theorem sEnvWiden_c (a1 a2 a3 : Option Addr) (c1 c2 c3 : Nat) (vs fs : List ByteArray) (rs : List (ByteArray × Int)) (li : Bool) (e1 e2 : Option Addr) (d1 d2 : Nat) (xs ys : List (Int × Int)) (lj : Bool) (e3 e4 : Option Addr) (d3 d4 : Nat) (xs2 ys2 : List (Int × Int)) (sa : Option Addr) (sc : Nat) (st : List Int) (w : World) (hv : Strs w a1 vs) (hf : Strs w a2 fs) (hr : Arrs w a3 rs)
    (hz : ∀ x ∈ namesOf vs fs rs, x.size ≤ 1048576) (hx : Ivs w e1 xs) (hy : Ivs w e2 ys) (hx2 : Ivs w e3 xs2) (hy2 : Ivs w e4 ys2) (hzs : Ints w sa st) :
    Calls Tryd.prog 24 #[.agg #[.slice a1 vs.length c1, .slice a2 fs.length c2, .slice a3 rs.length c3], .agg #[.bool li, .slice e1 xs.length d1, .slice e2 ys.length d2], .agg #[.bool lj, .slice e3 xs2.length d3, .slice e4 ys2.length d4], .slice sa st.length sc] w
    fun e w' => ∃ oa ca ob cb, e = .returned (.agg #[.bool (wdnL st vs fs rs li xs ys lj xs2 ys2), .slice oa (wdnV st vs fs rs li xs ys lj xs2 ys2).1.length ca, .slice ob (wdnV st vs fs rs li xs ys lj xs2 ys2).2.length cb]) ∧ RowsE w' w.heap.size oa ca ob cb (wdnV st vs fs rs li xs ys lj xs2 ys2).1 (wdnV st vs fs rs li xs ys lj xs2 ys2).2 ∧ Below w.heap.size w w' := by
  have HV := hide hv
  have HZS := hide hzs
  have hl : (st.length : Int) ≤ 1048576 := by have := hzs.1; omega
  have HF := hide hf
  have HR := hide hr
  have HZ := hide hz
  have HX := hide hx
  have HY := hide hy
  have HX2 := hide hx2
  have HY2 := hide hy2
  have HB := hide (Q5.new w (.slice a1 vs.length c1) (.slice a2 fs.length c2) (.slice a3 rs.length c3) (.bool li) (.slice e1 xs.length d1) (.slice e2 ys.length d2) (.bool lj) (.slice e3 xs2.length d3) (.slice e4 ys2.length d4) 27 30 30 30)
  clear hzs hv hf hr hz hx hy hx2 hy2
  go_enter Tryd.func24, Tryd.ntmps24
  go_wp2_with fail
  generalize (((w.alloc (Obj.cells #[.slice a1 vs.length c1, .slice a2 fs.length c2, .slice a3 rs.length c3] 27)).alloc (Obj.cells #[.bool li, .slice e1 xs.length d1, .slice e2 ys.length d2] 30)).alloc (Obj.cells #[.bool lj, .slice e3 xs2.length d3, .slice e4 ys2.length d4] 30)).alloc (Obj.cells #[.bool false, .slice none 0 0, .slice none 0 0] 30) = u at HB ⊢
  refine (sEnvOk_c a1 a2 a3 c1 c2 c3 vs fs rs li e1 e2 d1 d2 xs ys _ ((unhide HV).call (unhide HB).bel) ((unhide HF).call (unhide HB).bel) ((unhide HR).call (unhide HB).bel) (unhide HZ) ((unhide HX).call (unhide HB).bel) ((unhide HY).call (unhide HB).bel)).mono ?_
  rintro e u1 ⟨rfl, kb⟩
  have HB := hide ((unhide HB).call kb)
  clear kb
  have r0 := (unhide HB).2.1
  have r1 := (unhide HB).2.2.1
  have r2 := (unhide HB).2.2.2.1
  have f0 := (unhide HB).2.2.2.2 0
  have f1 := (unhide HB).2.2.2.2 1
  have f2 := (unhide HB).2.2.2.2 2
  cases h1 : envB vs fs rs li xs ys
  · have HN := hide (show wdnL st vs fs rs li xs ys lj xs2 ys2 = false ∧ wdnV st vs fs rs li xs ys lj xs2 ys2 = ([], []) by unfold wdnL wdnV joiL widV; rw [h1]; simp)
    clear h1
    go_wp2
    rw [(unhide HN).1, (unhide HN).2]
    exact bodyPost_ret (v := .agg #[.bool false, .slice none 0 0, .slice none 0 0]) (by simp [results, Tryd.results24, go_sem, r0, r1, r2]) rfl ⟨none, 0, none, 0, rfl, rows_nil _ _, (((unhide HB).bel.setCell (by first | exact Nat.le_add_right _ _ | (simp; done) | (simp; omega)) _).setCell (by first | exact Nat.le_add_right _ _ | (simp; done) | (simp; omega)) _).setCell (by first | exact Nat.le_add_right _ _ | (simp; done) | (simp; omega)) _⟩
  have H1 := hide h1
  clear h1
  have p0 := (unhide HB).1.1.1
  have p1 := (unhide HB).1.1.2.1
  have p2 := (unhide HB).1.1.2.2.1
  have s0 := (unhide HB).1.2.2.1.1
  have s1 := (unhide HB).1.2.2.1.2.1
  have s2 := (unhide HB).1.2.2.1.2.2.1
  clear r0 r1 r2 f0 f1 f2
  go_wp2_with fail
  refine (sEnvOk_c a1 a2 a3 c1 c2 c3 vs fs rs lj e3 e4 d3 d4 xs2 ys2 _ ((unhide HV).call (unhide HB).bel) ((unhide HF).call (unhide HB).bel) ((unhide HR).call (unhide HB).bel) (unhide HZ) ((unhide HX2).call (unhide HB).bel) ((unhide HY2).call (unhide HB).bel)).mono ?_
  rintro e u2 ⟨rfl, kb⟩
  have HB := hide ((unhide HB).call kb)
  clear kb p0 p1 p2 s0 s1 s2
  have r0 := (unhide HB).2.1
  have r1 := (unhide HB).2.2.1
  have r2 := (unhide HB).2.2.2.1
  have f0 := (unhide HB).2.2.2.2 0
  have f1 := (unhide HB).2.2.2.2 1
  have f2 := (unhide HB).2.2.2.2 2
  have q0 := (unhide HB).1.2.1.1
  cases h2 : envB vs fs rs lj xs2 ys2
  · have HN := hide (show wdnL st vs fs rs li xs ys lj xs2 ys2 = false ∧ wdnV st vs fs rs li xs ys lj xs2 ys2 = ([], []) by unfold wdnL wdnV joiL widV; rw [h2]; simp)
    clear h2
    go_wp2
    rw [(unhide HN).1, (unhide HN).2]
    exact bodyPost_ret (v := .agg #[.bool false, .slice none 0 0, .slice none 0 0]) (by simp [results, Tryd.results24, go_sem, r0, r1, r2]) rfl ⟨none, 0, none, 0, rfl, rows_nil _ _, (((unhide HB).bel.setCell (by first | exact Nat.le_add_right _ _ | (simp; done) | (simp; omega)) _).setCell (by first | exact Nat.le_add_right _ _ | (simp; done) | (simp; omega)) _).setCell (by first | exact Nat.le_add_right _ _ | (simp; done) | (simp; omega)) _⟩
  have H2 := hide h2
  clear h2
  by_cases hm : st.length ≤ 100
  case neg =>
    have HN := hide (wdn_many (vs := vs) (fs := fs) (rs := rs) (li := li) (lj := lj) (xs := xs) (ys := ys) (xs2 := xs2) (ys2 := ys2) hm)
    have hm' : (100 : Int) < (st.length : Int) := by omega
    clear hm
    go_wp2
    rw [(unhide HN).1, (unhide HN).2]
    exact bodyPost_ret (v := .agg #[.bool false, .slice none 0 0, .slice none 0 0]) (by simp [results, Tryd.results24, go_sem, r0, r1, r2]) rfl ⟨none, 0, none, 0, rfl, rows_nil _ _, (((unhide HB).bel.setCell (by first | exact Nat.le_add_right _ _ | (simp; done) | (simp; omega)) _).setCell (by first | exact Nat.le_add_right _ _ | (simp; done) | (simp; omega)) _).setCell (by first | exact Nat.le_add_right _ _ | (simp; done) | (simp; omega)) _⟩
  have hm' : ¬ ((100 : Int) < (st.length : Int)) := by omega
  have HN := hide (show wdnL st vs fs rs li xs ys lj xs2 ys2 = (li || lj) ∧ wdnV st vs fs rs li xs ys lj xs2 ys2 = wsV st li lj xs ys xs2 ys2 from ⟨(wdn_few hm).1.trans (wid_ws (st := st) (unhide H1) (unhide H2)).1, (wdn_few hm).2.trans (wid_ws (unhide H1) (unhide H2)).2⟩)
  clear hm
  have HS := hide (And.intro (env_small (unhide H1)) (env_small (unhide H2)))
  have HE := hide (env_lens (unhide H1) (unhide H2))
  clear r0 r1 r2 f0 f1 f2 q0
  have q0 := (unhide HB).1.2.1.1
  have q1 := (unhide HB).1.2.1.2.1
  have q2 := (unhide HB).1.2.1.2.2.1
  have s0 := (unhide HB).1.2.2.1.1
  have s1 := (unhide HB).1.2.2.1.2.1
  have s2 := (unhide HB).1.2.2.1.2.2.1
  have z3 : w.heap.size + 3 < u2.heap.size := (unhide HB).2.lt
  go_wp2_with fail
  refine (l6Widen_c li e1 e2 d1 d2 xs ys lj e3 e4 d3 d4 xs2 ys2 sa sc st _ ((unhide HZS).call (unhide HB).bel) ((unhide HX).call (unhide HB).bel) ((unhide HY).call (unhide HB).bel) ((unhide HX2).call (unhide HB).bel) ((unhide HY2).call (unhide HB).bel) (by have := unhide HS; omega) (fun g1 g2 => by have a := (unhide HE) g1 g2; have b := unhide HS; omega)).mono ?_
  rintro e u3 ⟨oa, ca, ob, cb, rfl, hrows, kb⟩
  have HB := hide ((unhide HB).call kb)
  have HRW := hide hrows
  clear kb hrows q0 q1 q2 s0 s1 s2
  have r0 := (unhide HB).2.1
  have r1 := (unhide HB).2.2.1
  have r2 := (unhide HB).2.2.2.1
  have f0 := (unhide HB).2.2.2.2 0
  have f1 := (unhide HB).2.2.2.2 1
  have f2 := (unhide HB).2.2.2.2 2
  go_wp2
  rw [(unhide HN).1, (unhide HN).2]
  exact bodyPost_ret (v := .agg #[.bool (li || lj), .slice oa (wsV st li lj xs ys xs2 ys2).1.length ca, .slice ob (wsV st li lj xs ys xs2 ys2).2.length cb]) (by simp [results, Tryd.results24, go_sem, r0, r1, r2]) rfl ⟨oa, ca, ob, cb, rfl, ((((unhide HRW).set (b := w.heap.size + 3) z3).set (b := w.heap.size + 3) z3).set (b := w.heap.size + 3) z3).down (B' := w.heap.size) (by omega), (((unhide HB).bel.setCell (by first | exact Nat.le_add_right _ _ | (simp; done) | (simp; omega)) _).setCell (by first | exact Nat.le_add_right _ _ | (simp; done) | (simp; omega)) _).setCell (by first | exact Nat.le_add_right _ _ | (simp; done) | (simp; omega)) _⟩
end Go.Proofs.YtoipaejbkcdioaaDoor

