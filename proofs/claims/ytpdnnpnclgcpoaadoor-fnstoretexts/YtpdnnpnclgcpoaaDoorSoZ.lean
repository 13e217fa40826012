/- Texts that go together: SamC, OrdM. -/
import Derived.Test.YtpdnnpnclgcpoaaDoorDoZ
import Derived.Deep.DeepCutAuto
import Derived.Test.YtpdnnpnclgcpoaaDoorLeZ
import Derived.Test.YtpdnnpnclgcpoaaDoorJoZ
import Derived.Test.YtpdnnpnclgcpoaaDoorMeZ
/- Are two bounds the same? -/
namespace Go.Proofs.YtpdnnpnclgcpoaaDoor
open Go.RowKit
set_option linter.unusedSimpArgs false
set_option linter.unusedVariables false

theorem below_drewN {B : Nat} {a w : World} (h : Below B a w) (n : Nat) : Below B a (w.drewN n) := ⟨h.os, h.tape, h.output, h.size, h.block⟩
set_option maxHeartbeats 1000000 in
theorem sameIvs_c (a b : Option Addr) (c d : Nat) (zs zt : List (Int × Int)) (w : World) (h : Ivs w a zs) (h2 : Ivs w b zt) : Calls Tryd.prog 76 #[.slice a zs.length c, .slice b zt.length d] w fun e w' => e = .returned (.bool (decide (zs = zt))) ∧ Below w.heap.size w w' := by
  have hl := h.1
  have hm := h2.1
  obtain ⟨r, hr⟩ : ∃ r, r = decide (zs = zt) := ⟨_, rfl⟩
  obtain ⟨L, hL⟩ : ∃ L, L = zs.length := ⟨_, rfl⟩
  obtain ⟨M, hM⟩ : ∃ M, M = zt.length := ⟨_, rfl⟩
  rw [← hr]
  rw [← hL] at hl ⊢
  rw [← hM] at hm ⊢
  have HR := hide hr
  have HL := hide hL
  have HM := hide hM
  have HH := hide h
  have HG := hide h2
  have hl' : (L : Int) ≤ 1048576 := by omega
  have hm' : (M : Int) ≤ 1048576 := by omega
  clear h h2 hL hM hr
  by_cases hc : L = M
  · subst hc
    go_enter Tryd.func76, Tryd.ntmps76
    go_wp2
    go_loopw [5] (fun i wr => ∃ k : Nat, k ≤ L ∧ i = .int .i64 k ∧ (∀ j, (hj : j < zs.length) → (hj2 : j < zt.length) → j < k → zs[j] = zt[j]) ∧ Below w.heap.size w wr) (fun i _ => L - (intOf i).toNat)
    case atStart => exact ⟨0, Nat.zero_le _, rfl, fun j _ _ h0 => by omega, Below.refl _ _⟩
    case round =>
      obtain ⟨k, hk, rfl, hd, hb⟩ := hrel
      have HD := hide hd
      have HB := hide hb
      clear hd
      by_cases hlt : k < L
      · have hk' : k < zs.length := by rw [← unhide HL]; exact hlt
        have hm2 : k < zt.length := by rw [← unhide HM]; exact hlt
        obtain ⟨s, hs⟩ : ∃ s, s = zs[k].1 := ⟨_, rfl⟩
        obtain ⟨z, hz⟩ : ∃ z, z = zs[k].2 := ⟨_, rfl⟩
        obtain ⟨t, ht⟩ : ∃ t, t = zt[k].1 := ⟨_, rfl⟩
        obtain ⟨y, hy⟩ : ∃ y, y = zt[k].2 := ⟨_, rfl⟩
        rcases ((unhide HH).call hb).2 with h0 | ⟨cb, co, rfl, hc⟩
        · omega
        rcases ((unhide HG).call hb).2 with h0 | ⟨eb, eo, rfl, he⟩
        · omega
        have c1 := (hc k hk').1
        have c2 := (hc k hk').2
        have k1 := (he k hm2).1
        have k2 := (he k hm2).2
        rw [← hs] at c1
        rw [← hz] at c2
        rw [← ht] at k1
        rw [← hy] at k2
        have P1 : Hid (zs[k] = (s, z)) := by unfold Hid; rw [hs, hz]
        have P2 : Hid (zt[k] = (t, y)) := by unfold Hid; rw [ht, hy]
        have HB1 : Hid (∀ n, Below w.heap.size w (wr.drewN n)) := fun n => below_drewN hb n
        have hk4 : H4 w ⟨cb, co + k * 2, none⟩ ⟨cb, co + k * 2 + 1, none⟩ ⟨eb, eo + k * 2, none⟩ ⟨eb, eo + k * 2 + 1, none⟩ (.int .i64 s) (.int .i64 z) (.int .i64 t) (.int .i64 y) wr := ⟨c1, c2, k1, k2, hb⟩
        clear hs hz ht hy hc he hb
        have bad : Hid (¬ (s, z) = (t, y) → r = false) := fun hne => by
          rw [unhide HR]
          exact decide_eq_false (fun e => hne (by rw [← P1.out, ← P2.out]; subst e; rfl))
        by_cases g1 : s = t
        · by_cases g2 : z = y
          · subst g1 g2
            go_wp2
            go_region_held3 (H4 w ⟨cb, co + k * 2, none⟩ ⟨cb, co + k * 2 + 1, none⟩ ⟨eb, eo + k * 2, none⟩ ⟨eb, eo + k * 2 + 1, none⟩ (.int .i64 s) (.int .i64 z) (.int .i64 s) (.int .i64 z))
              (first | assumption | exact H4.drew (by assumption))
              (fail)
            rename_i hH
            have HQ := hide hH.2.2.2.2
            clear hH hk4
            go_wp2
            go_roundw
            case rel => exact ⟨k + 1, by omega, by go_num, fun j hj hj2 h1 => by
              by_cases e : j = k
              · subst e; rw [P1.out, P2.out]
              · exact unhide HD j hj hj2 (by omega), unhide HQ⟩
            case measure => simp [intOf]; omega
          · have g3 : (z == y) = false := by simpa using g2
            have E := hide (bad.out (fun e => g2 (Prod.mk.inj e).2))
            subst g1
            go_wp2
            go_region_held3 (H4 w ⟨cb, co + k * 2, none⟩ ⟨cb, co + k * 2 + 1, none⟩ ⟨eb, eo + k * 2, none⟩ ⟨eb, eo + k * 2 + 1, none⟩ (.int .i64 s) (.int .i64 z) (.int .i64 s) (.int .i64 y))
              (first | assumption | exact H4.drew (by assumption))
              (fail)
            rename_i hH
            have HQ := hide hH.2.2.2.2
            clear hH hk4
            go_wp2
            go_ret
            exact ⟨by rw [unhide E]; rfl, unhide HQ⟩
        · have g3 : (s == t) = false := by simpa using g1
          have E := hide (bad.out (fun e => g1 (Prod.mk.inj e).1))
          go_wp2
          go_region_held3 (H4 w ⟨cb, co + k * 2, none⟩ ⟨cb, co + k * 2 + 1, none⟩ ⟨eb, eo + k * 2, none⟩ ⟨eb, eo + k * 2 + 1, none⟩ (.int .i64 s) (.int .i64 z) (.int .i64 t) (.int .i64 y))
            (first | assumption | exact H4.drew (by assumption))
            (fail)
          rename_i hH
          have HQ := hide hH.2.2.2.2
          clear hH hk4
          go_wp2
          go_ret
          exact ⟨by rw [unhide E]; rfl, unhide HQ⟩
      · obtain rfl : k = L := by omega
        have E : Hid (r = true) := by
          unfold Hid; rw [unhide HR]
          exact decide_eq_true (List.ext_getElem (by rw [← unhide HL, ← unhide HM]) (fun j h1 h2 => unhide HD j h1 h2 (by rw [unhide HL]; exact h1)))
        clear hb
        go_wp2
        go_ret
        exact ⟨by rw [unhide E]; rfl, unhide HB⟩
  · have E : Hid (r = false) := by
      unfold Hid; rw [unhide HR]
      exact decide_eq_false (fun e => hc (by rw [unhide HL, unhide HM, e]))
    have g : ((L : Int) != (M : Int)) = true := by simp; omega
    go_enter Tryd.func76, Tryd.ntmps76
    go_wp2
    go_ret
    exact ⟨by rw [unhide E]; rfl, Below.refl _ _⟩
/-- Both bounds are the same. -/
def samB (li : Bool) (xs ys : List (Int × Int)) (lj : Bool) (xs2 ys2 : List (Int × Int)) : Bool := (li == lj) && (decide (xs = xs2) && decide (ys = ys2))
set_option maxRecDepth 20000 in
set_option maxHeartbeats 4000000 in
theorem sameEnv_c (li : Bool) (e1 e2 : Option Addr) (d1 d2 : Nat) (xs ys : List (Int × Int)) (lj : Bool) (e3 e4 : Option Addr) (d3 d4 : Nat) (xs2 ys2 : List (Int × Int)) (w : World) (hx : Ivs w e1 xs) (hy : Ivs w e2 ys) (hx2 : Ivs w e3 xs2) (hy2 : Ivs w e4 ys2) :
    Calls Tryd.prog 30 #[.agg #[.bool li, .slice e1 xs.length d1, .slice e2 ys.length d2], .agg #[.bool lj, .slice e3 xs2.length d3, .slice e4 ys2.length d4]] w fun e w' => e = .returned (.bool (samB li xs ys lj xs2 ys2)) ∧ Below w.heap.size w w' := by
  have HX := hide hx
  have HY := hide hy
  have HX2 := hide hx2
  have HY2 := hide hy2
  have T0 := (C3.new w (.bool li) (.slice e1 xs.length d1) (.slice e2 ys.length d2) 43).alloc (Obj.cells #[.bool lj, .slice e3 xs2.length d3, .slice e4 ys2.length d4] 43)
  have T1 := C3.new (w.alloc (Obj.cells #[.bool li, .slice e1 xs.length d1, .slice e2 ys.length d2] 43)) (.bool lj) (.slice e3 xs2.length d3) (.slice e4 ys2.length d4) 43
  have K0 : Below w.heap.size w ((w.alloc (Obj.cells #[.bool li, .slice e1 xs.length d1, .slice e2 ys.length d2] 43)).alloc (Obj.cells #[.bool lj, .slice e3 xs2.length d3, .slice e4 ys2.length d4] 43)) := ((Below.refl _ _).alloc (Nat.le_refl _) _).alloc (by simp) _
  rw [show (w.alloc (Obj.cells #[.bool li, .slice e1 xs.length d1, .slice e2 ys.length d2] 43)).heap.size = w.heap.size + 1 by simp] at T1
  have HT0 := hide T0
  have HT1 := hide T1
  have HK := hide K0
  clear hx hy hx2 hy2 T0 T1 K0
  go_enter Tryd.func30, Tryd.ntmps30
  go_upto_region 1 with fail
  generalize (w.alloc (Obj.cells #[.bool li, .slice e1 xs.length d1, .slice e2 ys.length d2] 43)).alloc (Obj.cells #[.bool lj, .slice e3 xs2.length d3, .slice e4 ys2.length d4] 43) = u at HT0 HT1 HK ⊢
  have t0 := (unhide HT0).1
  have t1 := (unhide HT0).2.1
  have t2 := (unhide HT0).2.2.1
  have u0 := (unhide HT1).1
  have u1 := (unhide HT1).2.1
  have u2 := (unhide HT1).2.2.1
  by_cases hl : li = lj
  · have hl' : (li == lj) = true := by simpa using hl
    have HE0 := hide hl'
    subst hl
    go_wp2_with fail
    refine (sameIvs_c _ _ _ _ xs xs2 _ ((unhide HX).call (unhide HK)) ((unhide HX2).call (unhide HK))).mono ?_
    rintro e v1 ⟨rfl, kb⟩
    have HT0 := hide ((unhide HT0).call kb)
    have HT1 := hide ((unhide HT1).call kb)
    have HK := hide ((unhide HK).trans (kb.mono (unhide HK).size))
    clear kb t0 t1 t2 u0 u1 u2
    have t2 := (unhide HT0).2.2.1
    have u2 := (unhide HT1).2.2.1
    by_cases hx : xs = xs2
    · have hx' : decide (xs = xs2) = true := decide_eq_true hx
      rw [hx']
      go_wp2_with fail
      refine (sameIvs_c _ _ _ _ ys ys2 _ ((unhide HY).call (unhide HK)) ((unhide HY2).call (unhide HK))).mono ?_
      rintro e v2 ⟨rfl, kb⟩
      have HK := hide ((unhide HK).trans (kb.mono (unhide HK).size))
      have HE := hide (show samB li xs ys li xs2 ys2 = decide (ys = ys2) by unfold samB; rw [unhide HE0, hx']; rfl)
      clear kb t2 u2 hx
      generalize decide (ys = ys2) = r at HE ⊢
      go_wp2
      go_ret
      exact ⟨by rw [unhide HE]; rfl, unhide HK⟩
    · have hx' : decide (xs = xs2) = false := decide_eq_false hx
      rw [hx']
      have HE := hide (show samB li xs ys li xs2 ys2 = false by unfold samB; rw [unhide HE0, hx']; rfl)
      clear hx
      go_wp2
      go_ret
      exact ⟨by rw [unhide HE]; rfl, unhide HK⟩
  · have hl' : (li == lj) = false := by simpa using hl
    have HE := hide (show samB li xs ys lj xs2 ys2 = false by unfold samB; rw [hl']; rfl)
    clear hl
    go_wp2
    go_ret
    exact ⟨by rw [unhide HE]; rfl, unhide HK⟩
end Go.Proofs.YtpdnnpnclgcpoaaDoor

/- Joins and meets of bounds, and their order. -/
namespace Go.Proofs.YtpdnnpnclgcpoaaDoor
set_option linter.unusedSimpArgs false
set_option linter.unusedVariables false

theorem jn_leq1 (p q : Int × Int) (h1 : p.1 ≤ p.2) (h2 : q.1 ≤ q.2) : leqB p.1 p.2 (jn p q).1 (jn p q).2 = true := by
  unfold leqB jn joinL joinH mn mx
  simp only [h1, h2, and_self, if_true]
  refine decide_eq_true ⟨trivial, ?_, ?_, ?_⟩ <;> (repeat' split) <;> omega
theorem jn_comm (p q : Int × Int) (h1 : p.1 ≤ p.2) (h2 : q.1 ≤ q.2) : jn p q = jn q p := by
  unfold jn joinL joinH mn mx
  simp only [h1, h2, and_self, if_true]
  refine Prod.ext ?_ ?_ <;> (simp only []; split <;> split <;> omega)
theorem jn_iff (p q : Int × Int) (h1 : p.1 ≤ p.2) (h2 : q.1 ≤ q.2) : leqB p.1 p.2 q.1 q.2 = true ↔ jn p q = q := by
  obtain ⟨a, b⟩ := p
  obtain ⟨c, d⟩ := q
  simp only at h1 h2
  unfold leqB jn joinL joinH mn mx
  simp only [h1, h2, and_self, if_true, decide_eq_true_eq, Prod.mk.injEq]
  constructor
  · intro h
    constructor <;> split <;> omega
  · rintro ⟨e1, e2⟩
    refine ⟨trivial, trivial, ?_, ?_⟩
    · split at e1 <;> omega
    · split at e2 <;> omega
theorem jn_ok (p q : Int × Int) (h1 : p.1 ≤ p.2) (h2 : q.1 ≤ q.2) : (jn p q).1 ≤ (jn p q).2 := by
  unfold jn joinL joinH mn mx
  simp only [h1, h2, and_self, if_true]
  split <;> split <;> omega
theorem mt_ok (p q : Int × Int) (h : meetB p.1 p.2 q.1 q.2 = true) : (mt p q).1 ≤ (mt p q).2 := by
  have h := of_decide_eq_true h
  unfold mt meetL meetH
  simp only [h, if_true]
theorem mt_leq1 (p q : Int × Int) (h1 : p.1 ≤ p.2) (h : meetB p.1 p.2 q.1 q.2 = true) : leqB (mt p q).1 (mt p q).2 p.1 p.2 = true := by
  have h := of_decide_eq_true h
  unfold mt meetL meetH
  simp only [h, if_true]
  unfold leqB
  refine decide_eq_true ?_
  unfold mx mn at *
  refine ⟨h, h1, ?_, ?_⟩ <;> split <;> omega
theorem mt_leq2 (p q : Int × Int) (h1 : q.1 ≤ q.2) (h : meetB p.1 p.2 q.1 q.2 = true) : leqB (mt p q).1 (mt p q).2 q.1 q.2 = true := by
  have h := of_decide_eq_true h
  unfold mt meetL meetH
  simp only [h, if_true]
  unfold leqB
  refine decide_eq_true ?_
  unfold mx mn at *
  refine ⟨h, h1, ?_, ?_⟩ <;> split <;> omega
section
variable {Z T : List (Int × Int)}
theorem jn_at (k : Nat) (h : k < (List.zipWith jn Z T).length) : (List.zipWith jn Z T)[k] = jn (Z[k]'(by simp at h; omega)) (T[k]'(by simp at h; omega)) := List.getElem_zipWith
theorem jn_ivs (hz : ivsP Z) (ht : ivsP T) : ivsP (List.zipWith jn Z T) := by
  intro k h
  rw [jn_at k h]
  simp at h
  exact jn_ok _ _ (hz k (by omega)) (ht k (by omega))
theorem jn_swap (hl : Z.length = T.length) (hz : ivsP Z) (ht : ivsP T) : List.zipWith jn Z T = List.zipWith jn T Z := by
  refine List.ext_getElem (by simp; omega) fun k h1 h2 => ?_
  rw [jn_at k h1, jn_at k h2]
  simp at h1
  exact jn_comm _ _ (hz k (by omega)) (ht k (by omega))
theorem jn_above (hz : ivsP Z) (ht : ivsP T) : leqsP Z (List.zipWith jn Z T) := by
  intro k h1 h2
  rw [jn_at k h2]
  simp at h2
  exact jn_leq1 _ _ (hz k (by omega)) (ht k (by omega))
theorem jn_just (hl : Z.length = T.length) (hz : ivsP Z) (ht : ivsP T) : leqsP Z T ↔ List.zipWith jn Z T = T := by
  constructor
  · intro h
    refine List.ext_getElem (by simp; omega) fun k h1 h2 => ?_
    rw [jn_at k h1]
    exact (jn_iff _ _ (hz k (by omega)) (ht k h2)).1 (h k (by omega) h2)
  · intro h k h1 h2
    refine (jn_iff _ _ (hz k h1) (ht k h2)).2 ?_
    have e : (List.zipWith jn Z T)[k]'(by simp; omega) = T[k] := by simp only [h]
    rw [jn_at] at e
    exact e
theorem mt_at (k : Nat) (h : k < (List.zipWith mt Z T).length) : (List.zipWith mt Z T)[k] = mt (Z[k]'(by simp at h; omega)) (T[k]'(by simp at h; omega)) := List.getElem_zipWith
theorem mt_ivs (hm : metP Z T) : ivsP (List.zipWith mt Z T) := by
  intro k h
  rw [mt_at k h]
  simp at h
  exact mt_ok _ _ (hm k (by omega) (by omega))
theorem mt_below1 (hz : ivsP Z) (hm : metP Z T) : leqsP (List.zipWith mt Z T) Z := by
  intro k h1 h2
  rw [mt_at k h1]
  simp at h1
  exact mt_leq1 _ _ (hz k h2) (hm k (by omega) (by omega))
theorem mt_below2 (ht : ivsP T) (hm : metP Z T) : leqsP (List.zipWith mt Z T) T := by
  intro k h1 h2
  rw [mt_at k h1]
  simp at h1
  exact mt_leq2 _ _ (ht k h2) (hm k (by omega) (by omega))
end
section
variable {vs fs : List ByteArray} {rs : List (ByteArray × Int)} {li lj : Bool} {xs ys xs2 ys2 : List (Int × Int)}
theorem env_decl (h : envB vs fs rs li xs ys = true) : declB vs fs rs = true := by unfold envB at h; rw [Bool.and_eq_true] at h; exact h.1
theorem env_fit (h : envB vs fs rs li xs ys = true) : fitP vs.length rs.length li xs ys := by unfold envB at h; rw [Bool.and_eq_true] at h; exact of_decide_eq_true h.2
theorem env_of (h : declB vs fs rs = true) (k : fitP vs.length rs.length li xs ys) : envB vs fs rs li xs ys = true := by unfold envB; rw [h]; exact decide_eq_true k
theorem env_dead (h : envB vs fs rs false xs ys = true) : xs = [] ∧ ys = [] := by
  rcases env_fit h with ⟨_, h1, h2⟩ | ⟨h1, _⟩
  · exact ⟨List.eq_nil_of_length_eq_zero h1, List.eq_nil_of_length_eq_zero h2⟩
  · cases h1
theorem env_live (h : envB vs fs rs true xs ys = true) : xs.length = vs.length ∧ ys.length = rs.length ∧ ivsP (xs ++ ys) := by
  rcases env_fit h with ⟨h1, _⟩ | ⟨_, h1⟩
  · cases h1
  · exact h1
theorem joi_ll (h1 : envB vs fs rs true xs ys = true) (h2 : envB vs fs rs true xs2 ys2 = true) : joiL vs fs rs true xs ys true xs2 ys2 = true ∧ joiV vs fs rs true xs ys true xs2 ys2 = (List.zipWith jn xs xs2, List.zipWith jn ys ys2) := by
  constructor
  · unfold joiL; rw [h1, h2]; rfl
  · unfold joiV; rw [if_pos ⟨h1, h2⟩]; rfl
theorem joi_lf (h1 : envB vs fs rs true xs ys = true) (h2 : envB vs fs rs false xs2 ys2 = true) : joiL vs fs rs true xs ys false xs2 ys2 = true ∧ joiV vs fs rs true xs ys false xs2 ys2 = (xs, ys) := by
  constructor
  · unfold joiL; rw [h1, h2]; rfl
  · unfold joiV; rw [if_pos ⟨h1, h2⟩]; rfl
theorem joi_f (h1 : envB vs fs rs false xs ys = true) (h2 : envB vs fs rs lj xs2 ys2 = true) : joiL vs fs rs false xs ys lj xs2 ys2 = lj ∧ joiV vs fs rs false xs ys lj xs2 ys2 = (xs2, ys2) := by
  constructor
  · unfold joiL; rw [h1, h2]; simp
  · unfold joiV; rw [if_pos ⟨h1, h2⟩]; rfl
theorem zip_app (f : Int × Int → Int × Int → Int × Int) (h : xs.length = xs2.length) : List.zipWith f xs xs2 ++ List.zipWith f ys ys2 = List.zipWith f (xs ++ ys) (xs2 ++ ys2) := (List.zipWith_append h).symm
theorem leqs_self {Z : List (Int × Int)} (h : ivsP Z) : leqsP Z Z := fun k h1 h2 => by
  unfold leqB
  have := h k h1
  exact decide_eq_true (by omega)
/-- A join is right. -/
theorem ord_env (h1 : envB vs fs rs li xs ys = true) (h2 : envB vs fs rs lj xs2 ys2 = true) : envB vs fs rs (joiL vs fs rs li xs ys lj xs2 ys2) (joiV vs fs rs li xs ys lj xs2 ys2).1 (joiV vs fs rs li xs ys lj xs2 ys2).2 = true := by
  cases li
  · rw [(joi_f h1 h2).1, (joi_f h1 h2).2]; exact h2
  · cases lj
    · rw [(joi_lf h1 h2).1, (joi_lf h1 h2).2]; exact h1
    · rw [(joi_ll h1 h2).1, (joi_ll h1 h2).2]
      obtain ⟨a1, a2, a3⟩ := env_live h1
      obtain ⟨b1, b2, b3⟩ := env_live h2
      refine env_of (env_decl h1) (.inr ⟨rfl, by simp; omega, by simp; omega, ?_⟩)
      simp only
      rw [zip_app jn (by omega)]
      exact jn_ivs a3 b3
/-- It is above the first one. -/
theorem ord_above1 (h1 : envB vs fs rs li xs ys = true) (h2 : envB vs fs rs lj xs2 ys2 = true) : leqD vs fs rs li xs ys (joiL vs fs rs li xs ys lj xs2 ys2) (joiV vs fs rs li xs ys lj xs2 ys2).1 (joiV vs fs rs li xs ys lj xs2 ys2).2 = true := by
  unfold leqD
  rw [h1, ord_env h1 h2]
  cases li
  · rfl
  · cases lj
    · rw [(joi_lf h1 h2).1, (joi_lf h1 h2).2]
      have := decide_eq_true (leqs_self (env_live h1).2.2)
      unfold leqE; rw [this]; rfl
    · rw [(joi_ll h1 h2).1, (joi_ll h1 h2).2]
      obtain ⟨a1, a2, a3⟩ := env_live h1
      obtain ⟨b1, b2, b3⟩ := env_live h2
      simp only
      rw [zip_app jn (by omega)]
      have := decide_eq_true (jn_above a3 b3)
      unfold leqE; rw [this]; rfl
/-- Both ways round it is the same. -/
theorem ord_swap (h1 : envB vs fs rs li xs ys = true) (h2 : envB vs fs rs lj xs2 ys2 = true) : joiL vs fs rs lj xs2 ys2 li xs ys = joiL vs fs rs li xs ys lj xs2 ys2 ∧ joiV vs fs rs lj xs2 ys2 li xs ys = joiV vs fs rs li xs ys lj xs2 ys2 := by
  cases li
  · obtain ⟨rfl, rfl⟩ := env_dead h1
    cases lj
    · obtain ⟨rfl, rfl⟩ := env_dead h2
      exact ⟨rfl, rfl⟩
    · rw [(joi_f h1 h2).1, (joi_f h1 h2).2]
      exact joi_lf h2 h1
  · cases lj
    · obtain ⟨rfl, rfl⟩ := env_dead h2
      rw [(joi_lf h1 h2).1, (joi_lf h1 h2).2]
      exact joi_f h2 h1
    · obtain ⟨a1, a2, a3⟩ := env_live h1
      obtain ⟨b1, b2, b3⟩ := env_live h2
      rw [(joi_ll h1 h2).1, (joi_ll h1 h2).2, (joi_ll h2 h1).1, (joi_ll h2 h1).2]
      refine ⟨rfl, ?_⟩
      have a4 : ivsP xs := fun k h => by have := a3 k (by simp; omega); rw [List.getElem_append_left h] at this; exact this
      have b4 : ivsP xs2 := fun k h => by have := b3 k (by simp; omega); rw [List.getElem_append_left h] at this; exact this
      have a5 : ivsP ys := fun k h => by have := a3 (xs.length + k) (by simp; omega); rw [List.getElem_append_right (by omega)] at this; simpa using this
      have b5 : ivsP ys2 := fun k h => by have := b3 (xs2.length + k) (by simp; omega); rw [List.getElem_append_right (by omega)] at this; simpa using this
      rw [jn_swap (by omega) b4 a4, jn_swap (by omega) b5 a5]
theorem ord_above2 (h1 : envB vs fs rs li xs ys = true) (h2 : envB vs fs rs lj xs2 ys2 = true) : leqD vs fs rs lj xs2 ys2 (joiL vs fs rs li xs ys lj xs2 ys2) (joiV vs fs rs li xs ys lj xs2 ys2).1 (joiV vs fs rs li xs ys lj xs2 ys2).2 = true := by
  have k := ord_above1 h2 h1
  rw [(ord_swap h1 h2).1, (ord_swap h1 h2).2] at k
  exact k
/-- One is below the other one just when the join is that. -/
theorem ord_just (h1 : envB vs fs rs li xs ys = true) (h2 : envB vs fs rs lj xs2 ys2 = true) : leqD vs fs rs li xs ys lj xs2 ys2 = samB (joiL vs fs rs li xs ys lj xs2 ys2) (joiV vs fs rs li xs ys lj xs2 ys2).1 (joiV vs fs rs li xs ys lj xs2 ys2).2 lj xs2 ys2 := by
  unfold leqD
  rw [h1, h2]
  cases li
  · rw [(joi_f h1 h2).1, (joi_f h1 h2).2]
    simp [leqE, samB]
  · cases lj
    · rw [(joi_lf h1 h2).1, (joi_lf h1 h2).2]
      simp [leqE, samB]
    · rw [(joi_ll h1 h2).1, (joi_ll h1 h2).2]
      obtain ⟨a1, a2, a3⟩ := env_live h1
      obtain ⟨b1, b2, b3⟩ := env_live h2
      have e := jn_just (by simp; omega) a3 b3
      rw [← zip_app jn (by omega)] at e
      have e2 : List.zipWith jn xs xs2 ++ List.zipWith jn ys ys2 = xs2 ++ ys2 ↔ List.zipWith jn xs xs2 = xs2 ∧ List.zipWith jn ys ys2 = ys2 := by
        constructor
        · intro h
          exact List.append_inj h (by simp; omega)
        · rintro ⟨q1, q2⟩
          rw [q1, q2]
      rw [e2] at e
      simp [leqE, samB, e]
/-- A meet is right, and below both. -/
theorem ord_meet (h1 : envB vs fs rs li xs ys = true) (h2 : envB vs fs rs lj xs2 ys2 = true) :
    envB vs fs rs (metL vs fs rs li xs ys lj xs2 ys2) (metV vs fs rs li xs ys lj xs2 ys2).1 (metV vs fs rs li xs ys lj xs2 ys2).2 = true ∧
    leqD vs fs rs (metL vs fs rs li xs ys lj xs2 ys2) (metV vs fs rs li xs ys lj xs2 ys2).1 (metV vs fs rs li xs ys lj xs2 ys2).2 li xs ys = true ∧
    leqD vs fs rs (metL vs fs rs li xs ys lj xs2 ys2) (metV vs fs rs li xs ys lj xs2 ys2).1 (metV vs fs rs li xs ys lj xs2 ys2).2 lj xs2 ys2 = true := by
  cases hm : metL vs fs rs li xs ys lj xs2 ys2
  · rw [metV_no hm]
    have h0 : envB vs fs rs false [] [] = true := env_of (env_decl h1) (.inl ⟨rfl, rfl, rfl⟩)
    refine ⟨h0, ?_, ?_⟩
    · unfold leqD; rw [h0, h1]; rfl
    · unfold leqD; rw [h0, h2]; rfl
  · rw [metV_yes hm]
    have hm2 := hm
    unfold metL at hm2
    simp only [Bool.and_eq_true, decide_eq_true_eq] at hm2
    obtain ⟨_, _, rfl, rfl, hmp⟩ := hm2
    obtain ⟨a1, a2, a3⟩ := env_live h1
    obtain ⟨b1, b2, b3⟩ := env_live h2
    have h0 : envB vs fs rs true (List.zipWith mt xs xs2) (List.zipWith mt ys ys2) = true := by
      refine env_of (env_decl h1) (.inr ⟨rfl, by simp; omega, by simp; omega, ?_⟩)
      rw [zip_app mt (by omega)]
      exact mt_ivs hmp
    refine ⟨h0, ?_, ?_⟩
    · unfold leqD
      rw [h0, h1]
      simp only
      rw [zip_app mt (by omega)]
      have := decide_eq_true (mt_below1 a3 hmp)
      unfold leqE; rw [this]; rfl
    · unfold leqD
      rw [h0, h2]
      simp only
      rw [zip_app mt (by omega)]
      have := decide_eq_true (mt_below2 b3 hmp)
      unfold leqE; rw [this]; rfl
end
theorem sam_self (l : Bool) (xs ys : List (Int × Int)) : samB l xs ys l xs ys = true := by simp [samB]
end Go.Proofs.YtpdnnpnclgcpoaaDoor

