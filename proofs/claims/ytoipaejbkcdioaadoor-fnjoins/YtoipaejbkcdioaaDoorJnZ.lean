/- Texts that go together: OrdK, JnsM, JnsK, DjnC. -/
import Derived.Test.YtoipaejbkcdioaaDoorOrdM
import Derived.Test.YtoipaejbkcdioaaDoorDrwH
/- Rows of a declaration and of two bounds; boxes. -/
namespace Go.Proofs.YtoipaejbkcdioaaDoor
open Go.RowKit Go.Iv
set_option linter.unusedSimpArgs false
set_option linter.unusedVariables false

def IsRow (k : IntKind) (w : World) (a : Option Addr) (len cap : Nat) (zs : List Int) : Prop :=
  (a = none ∧ len = 0 ∧ cap = 0 ∧ zs = []) ∨
  ∃ x, a = some x ∧ len ≤ cap ∧ cap ≤ maxLen ∧ zs.length = cap ∧ (∀ i, i < zs.length → w.cell? (x.add i) = some (.int k (zs.getD i 0))) ∧ ∀ n ∈ zs, (Lit.int k n).wf = true
/-- The words, and the rows of a declaration and of two bounds. -/
def OrR (w : World) (a1 a2 a3 : Option Addr) (vs fs : List ByteArray) (rs : List (ByteArray × Int)) (oa ob : Option Addr) (xs ys : List (Int × Int)) (oc od : Option Addr) (xs2 ys2 : List (Int × Int)) : Prop :=
  KW w ∧ Strs w a1 vs ∧ Strs w a2 fs ∧ Arrs w a3 rs ∧ Ivs w oa xs ∧ Ivs w ob ys ∧ Ivs w oc xs2 ∧ Ivs w od ys2
theorem OrR.call {w w1 : World} {a1 a2 a3 : Option Addr} {vs fs : List ByteArray} {rs : List (ByteArray × Int)} {oa ob oc od : Option Addr} {xs ys xs2 ys2 : List (Int × Int)} (h : OrR w a1 a2 a3 vs fs rs oa ob xs ys oc od xs2 ys2) (k : Below w.heap.size w w1) : OrR w1 a1 a2 a3 vs fs rs oa ob xs ys oc od xs2 ys2 :=
  ⟨h.1.call k, h.2.1.call k, h.2.2.1.call k, h.2.2.2.1.call k, h.2.2.2.2.1.call k, h.2.2.2.2.2.1.call k, h.2.2.2.2.2.2.1.call k, h.2.2.2.2.2.2.2.call k⟩
theorem env_few {vs fs : List ByteArray} {rs : List (ByteArray × Int)} {li : Bool} {xs ys : List (Int × Int)} (h : envB vs fs rs li xs ys = true) : xs.length ≤ 5 ∧ ys.length ≤ 2 := by
  have k : declP vs fs rs := of_decide_eq_true (env_decl h)
  have k1 := k.1
  have k2 := k.2.2.1
  rcases env_fit h with ⟨_, h1, h2⟩ | ⟨_, h1, h2, _⟩ <;> omega
theorem same_again {u : World} {jl : Bool} {oj ok oj2 ok2 : Option Addr} {cj ck cj2 ck2 : Nat} {jx jy : List (Int × Int)} (h : Ivs u oj2 jx ∧ Ivs u ok2 jy) (h2 : Ivs u oj jx ∧ Ivs u ok jy) :
    Calls Tryd.prog 17 #[.agg #[.bool jl, .slice oj2 jx.length cj2, .slice ok2 jy.length ck2], .agg #[.bool jl, .slice oj jx.length cj, .slice ok jy.length ck]] u fun e w' => e = .returned (.bool true) ∧ Below u.heap.size u w' := by
  have q := sameEnv_c jl oj2 ok2 cj2 ck2 jx jy jl oj ok cj ck jx jy u h.1 h.2 h2.1 h2.2
  rw [sam_self] at q
  exact q
/-- Fifteen cells of five boxes. -/
@[reducible] def S15 (w0 : World) (b p q : Nat) (x0 x1 x2 y0 y1 y2 z0 z1 z2 s0 s1 s2 t0 t1 t2 : Value) (u : World) : Prop :=
  u.cell? ⟨b, 0, none⟩ = some x0 ∧ u.cell? ⟨b, 1, none⟩ = some x1 ∧ u.cell? ⟨b, 2, none⟩ = some x2 ∧ u.cell? ⟨b + 1, 0, none⟩ = some y0 ∧ u.cell? ⟨b + 1, 1, none⟩ = some y1 ∧ u.cell? ⟨b + 1, 2, none⟩ = some y2 ∧ u.cell? ⟨b + 2, 0, none⟩ = some z0 ∧ u.cell? ⟨b + 2, 1, none⟩ = some z1 ∧ u.cell? ⟨b + 2, 2, none⟩ = some z2 ∧
  u.cell? ⟨p, 0, none⟩ = some s0 ∧ u.cell? ⟨p, 1, none⟩ = some s1 ∧ u.cell? ⟨p, 2, none⟩ = some s2 ∧ u.cell? ⟨q, 0, none⟩ = some t0 ∧ u.cell? ⟨q, 1, none⟩ = some t1 ∧ u.cell? ⟨q, 2, none⟩ = some t2 ∧ Hid ((C3 u b x0 x1 x2 ∧ C3 u (b + 1) y0 y1 y2 ∧ C3 u (b + 2) z0 z1 z2) ∧ C3 u p s0 s1 s2 ∧ C3 u q t0 t1 t2 ∧ Below w0.heap.size w0 u)
theorem S15.of {w0 : World} {b p q : Nat} {x0 x1 x2 y0 y1 y2 z0 z1 z2 s0 s1 s2 t0 t1 t2 : Value} {u : World} (h : C3 u b x0 x1 x2) (h1 : C3 u (b + 1) y0 y1 y2) (h2 : C3 u (b + 2) z0 z1 z2) (h3 : C3 u p s0 s1 s2) (h4 : C3 u q t0 t1 t2) (k : Below w0.heap.size w0 u) : S15 w0 b p q x0 x1 x2 y0 y1 y2 z0 z1 z2 s0 s1 s2 t0 t1 t2 u :=
  ⟨h.1, h.2.1, h.2.2.1, h1.1, h1.2.1, h1.2.2.1, h2.1, h2.2.1, h2.2.2.1, h3.1, h3.2.1, h3.2.2.1, h4.1, h4.2.1, h4.2.2.1, hide ⟨⟨h, h1, h2⟩, h3, h4, k⟩⟩
theorem S15.out {w0 : World} {b p q : Nat} {x0 x1 x2 y0 y1 y2 z0 z1 z2 s0 s1 s2 t0 t1 t2 : Value} {u : World} (h : S15 w0 b p q x0 x1 x2 y0 y1 y2 z0 z1 z2 s0 s1 s2 t0 t1 t2 u) : (C3 u b x0 x1 x2 ∧ C3 u (b + 1) y0 y1 y2 ∧ C3 u (b + 2) z0 z1 z2) ∧ C3 u p s0 s1 s2 ∧ C3 u q t0 t1 t2 ∧ Below w0.heap.size w0 u := unhide h.2.2.2.2.2.2.2.2.2.2.2.2.2.2.2
theorem S15.call {w0 : World} {b p q : Nat} {x0 x1 x2 y0 y1 y2 z0 z1 z2 s0 s1 s2 t0 t1 t2 : Value} {u v : World} (h : S15 w0 b p q x0 x1 x2 y0 y1 y2 z0 z1 z2 s0 s1 s2 t0 t1 t2 u) (k : Below u.heap.size u v) : S15 w0 b p q x0 x1 x2 y0 y1 y2 z0 z1 z2 s0 s1 s2 t0 t1 t2 v :=
  S15.of (h.out.1.1.call k) (h.out.1.2.1.call k) (h.out.1.2.2.call k) (h.out.2.1.call k) (h.out.2.2.1.call k) (h.out.2.2.2.trans (k.mono h.out.2.2.2.size))
theorem S15.drew {w0 : World} {b p q : Nat} {x0 x1 x2 y0 y1 y2 z0 z1 z2 s0 s1 s2 t0 t1 t2 : Value} {u : World} (h : S15 w0 b p q x0 x1 x2 y0 y1 y2 z0 z1 z2 s0 s1 s2 t0 t1 t2 u) : S15 w0 b p q x0 x1 x2 y0 y1 y2 z0 z1 z2 s0 s1 s2 t0 t1 t2 u.drew := h.call (Below.refl _ _).drew
theorem S15.bel {w0 : World} {b p q : Nat} {x0 x1 x2 y0 y1 y2 z0 z1 z2 s0 s1 s2 t0 t1 t2 : Value} {u : World} (h : S15 w0 b p q x0 x1 x2 y0 y1 y2 z0 z1 z2 s0 s1 s2 t0 t1 t2 u) : Below w0.heap.size w0 u := h.out.2.2.2
end Go.Proofs.YtoipaejbkcdioaaDoor

/- Joins in whatever order. -/
namespace Go.Proofs.YtoipaejbkcdioaaDoor
set_option linter.unusedSimpArgs false
set_option linter.unusedVariables false

theorem jn_assoc (p q r : Int × Int) (h1 : p.1 ≤ p.2) (h2 : q.1 ≤ q.2) (h3 : r.1 ≤ r.2) : jn (jn p q) r = jn p (jn q r) := by
  have k1 := jn_ok p q h1 h2
  have k2 := jn_ok q r h2 h3
  obtain ⟨a, b⟩ := p
  obtain ⟨c, d⟩ := q
  obtain ⟨e, f⟩ := r
  simp only at h1 h2 h3
  unfold jn joinL joinH at k1 k2 ⊢
  simp only [h1, h2, and_self, if_true] at k1
  simp only [h2, h3, and_self, if_true] at k2
  simp only [h1, h2, h3, k1, k2, and_self, if_true, Prod.mk.injEq]
  unfold mn mx
  constructor <;> (repeat' split) <;> omega
theorem jn_self (p : Int × Int) (h : p.1 ≤ p.2) : jn p p = p := by
  unfold jn joinL joinH mn mx
  simp only [h, and_self, if_true]
  refine Prod.ext ?_ ?_ <;> (simp only []; (repeat' split) <;> omega)
theorem mt_leq (p q : Int × Int) (h : leqB p.1 p.2 q.1 q.2 = true) : meetB p.1 p.2 q.1 q.2 = true ∧ mt p q = p := by
  have h := of_decide_eq_true h
  have k : mx p.1 q.1 ≤ mn p.2 q.2 := by unfold mx mn; (repeat' split) <;> omega
  refine ⟨decide_eq_true k, ?_⟩
  unfold mt meetL meetH
  simp only [k, if_true]
  unfold mx mn
  refine Prod.ext ?_ ?_ <;> (simp only []; (repeat' split) <;> omega)
theorem jn_zip_assoc {X Y Z : List (Int × Int)} (h1 : ivsP X) (h2 : ivsP Y) (h3 : ivsP Z) : List.zipWith jn (List.zipWith jn X Y) Z = List.zipWith jn X (List.zipWith jn Y Z) := by
  refine List.ext_getElem (by simp) fun k l1 l2 => ?_
  simp at l1
  simp only [List.getElem_zipWith]
  exact jn_assoc _ _ _ (h1 k (by omega)) (h2 k (by omega)) (h3 k (by omega))
theorem jn_zip_self {X : List (Int × Int)} (h : ivsP X) : List.zipWith jn X X = X := by
  refine List.ext_getElem (by simp) fun k l1 l2 => ?_
  simp only [List.getElem_zipWith]
  exact jn_self _ (h k l2)
theorem ivs_left {X Y : List (Int × Int)} (h : ivsP (X ++ Y)) : ivsP X := fun k hk => by have := h k (by simp; omega); rw [List.getElem_append_left hk] at this; exact this
theorem ivs_right {X Y : List (Int × Int)} (h : ivsP (X ++ Y)) : ivsP Y := fun k hk => by have := h (X.length + k) (by simp; omega); rw [List.getElem_append_right (by omega)] at this; simpa using this
section
variable {vs fs : List ByteArray} {rs : List (ByteArray × Int)} {li lj lk : Bool} {xs ys xs2 ys2 xs3 ys3 : List (Int × Int)}
theorem ord_self (h : envB vs fs rs li xs ys = true) : joiL vs fs rs li xs ys li xs ys = li ∧ joiV vs fs rs li xs ys li xs ys = (xs, ys) := by
  cases li
  · exact joi_f h h
  · obtain ⟨_, _, k⟩ := env_live h
    refine ⟨(joi_ll h h).1, ?_⟩
    rw [(joi_ll h h).2, jn_zip_self (ivs_left k), jn_zip_self (ivs_right k)]
/-- A join of three goes either way. -/
theorem ord_assoc (h1 : envB vs fs rs li xs ys = true) (h2 : envB vs fs rs lj xs2 ys2 = true) (h3 : envB vs fs rs lk xs3 ys3 = true) :
    joiL vs fs rs (joiL vs fs rs li xs ys lj xs2 ys2) (joiV vs fs rs li xs ys lj xs2 ys2).1 (joiV vs fs rs li xs ys lj xs2 ys2).2 lk xs3 ys3 = joiL vs fs rs li xs ys (joiL vs fs rs lj xs2 ys2 lk xs3 ys3) (joiV vs fs rs lj xs2 ys2 lk xs3 ys3).1 (joiV vs fs rs lj xs2 ys2 lk xs3 ys3).2 ∧
    joiV vs fs rs (joiL vs fs rs li xs ys lj xs2 ys2) (joiV vs fs rs li xs ys lj xs2 ys2).1 (joiV vs fs rs li xs ys lj xs2 ys2).2 lk xs3 ys3 = joiV vs fs rs li xs ys (joiL vs fs rs lj xs2 ys2 lk xs3 ys3) (joiV vs fs rs lj xs2 ys2 lk xs3 ys3).1 (joiV vs fs rs lj xs2 ys2 lk xs3 ys3).2 := by
  have e23 := ord_env h2 h3
  have e12 := ord_env h1 h2
  cases li
  · rw [(joi_f h1 e23).1, (joi_f h1 e23).2, (joi_f h1 h2).1, (joi_f h1 h2).2]
    exact ⟨rfl, rfl⟩
  · cases lj
    · rw [(joi_f h2 h3).1, (joi_f h2 h3).2, (joi_lf h1 h2).1, (joi_lf h1 h2).2]
      exact ⟨rfl, rfl⟩
    · cases lk
      · rw [(joi_lf h2 h3).1, (joi_lf h2 h3).2]
        rw [(joi_ll h1 h2).1, (joi_ll h1 h2).2] at e12 ⊢
        exact joi_lf e12 h3
      · rw [(joi_ll h1 h2).1, (joi_ll h1 h2).2] at e12 ⊢
        rw [(joi_ll h2 h3).1, (joi_ll h2 h3).2] at e23 ⊢
        rw [(joi_ll e12 h3).1, (joi_ll e12 h3).2, (joi_ll h1 e23).1, (joi_ll h1 e23).2]
        obtain ⟨_, _, k1⟩ := env_live h1
        obtain ⟨_, _, k2⟩ := env_live h2
        obtain ⟨_, _, k3⟩ := env_live h3
        refine ⟨rfl, ?_⟩
        rw [jn_zip_assoc (ivs_left k1) (ivs_left k2) (ivs_left k3), jn_zip_assoc (ivs_right k1) (ivs_right k2) (ivs_right k3)]
/-- A meet with what is above is the same. -/
theorem ord_meet_above (h : leqD vs fs rs li xs ys lj xs2 ys2 = true) : metL vs fs rs li xs ys lj xs2 ys2 = li ∧ metV vs fs rs li xs ys lj xs2 ys2 = (xs, ys) := by
  unfold leqD at h
  simp only [Bool.and_eq_true] at h
  obtain ⟨h1, h2, h3⟩ := h
  cases li
  · obtain ⟨rfl, rfl⟩ := env_dead h1
    have k : metL vs fs rs false [] [] lj xs2 ys2 = false := by unfold metL; simp
    exact ⟨k, by rw [metV_no k]⟩
  · unfold leqE at h3
    simp only [Bool.not_true, Bool.false_or, Bool.and_eq_true, decide_eq_true_eq] at h3
    obtain ⟨rfl, h3⟩ := h3
    obtain ⟨a1, a2, a3⟩ := env_live h1
    obtain ⟨b1, b2, b3⟩ := env_live h2
    have hm : metP (xs ++ ys) (xs2 ++ ys2) := fun k l1 l2 => (mt_leq _ _ (h3 k l1 l2)).1
    have k : metL vs fs rs true xs ys true xs2 ys2 = true := by rw [metL_both h1 h2]; exact decide_eq_true hm
    refine ⟨k, ?_⟩
    rw [metV_yes k]
    have e : ∀ {P Q : List (Int × Int)}, P.length = Q.length → (∀ i, (l1 : i < P.length) → (l2 : i < Q.length) → mt P[i] Q[i] = P[i]) → List.zipWith mt P Q = P := by
      intro P Q hl hh
      refine List.ext_getElem (by simp; omega) fun i l1 l2 => ?_
      rw [mt_at i l1]
      exact hh i l2 (by omega)
    have ex := e (P := xs) (Q := xs2) (by omega) (fun i l1 l2 => by
      have q := (mt_leq _ _ (h3 i (by simp; omega) (by simp; omega))).2
      rw [List.getElem_append_left l1, List.getElem_append_left l2] at q
      exact q)
    have ey := e (P := ys) (Q := ys2) (by omega) (fun i l1 l2 => by
      have q := (mt_leq _ _ (h3 (xs.length + i) (by simp; omega) (by simp; omega))).2
      rw [List.getElem_append_right (by omega), List.getElem_append_right (by omega)] at q
      have e1 : xs.length + i - xs2.length = i := by omega
      simpa [e1] using q)
    rw [ex, ey]
end
end Go.Proofs.YtoipaejbkcdioaaDoor

/- Answers in boxes. -/
namespace Go.Proofs.YtoipaejbkcdioaaDoor
open Go.RowKit Go.Iv
set_option linter.unusedSimpArgs false
set_option linter.unusedVariables false

theorem fut_trans {u v w : World} (h : Below u.heap.size u v) (k : Below v.heap.size v w) : Below u.heap.size u w := h.trans (k.mono h.size)
theorem fut_alloc {u v : World} (h : Below u.heap.size u v) (o : Obj) : Below u.heap.size u (v.alloc o) := h.alloc h.size o
/-- Bounds that a call made. -/
def Ans3 (l : Bool) (X Y : List (Int × Int)) (w : World) (e : Ending) (w' : World) : Prop := ∃ oj cj ok ck, e = .returned (.agg #[.bool l, .slice oj X.length cj, .slice ok Y.length ck]) ∧ RowsE w' w.heap.size oj cj ok ck X Y ∧ Below w.heap.size w w'
/-- Bounds in a box that was made behind u0. -/
def AnB (u0 : World) (g : Nat) (l : Bool) (X Y : List (Int × Int)) (u : World) : Prop := Below u0.heap.size u0 u ∧ u0.heap.size ≤ g ∧ ∃ oj cj ok ck, C3 u g (.bool l) (.slice oj X.length cj) (.slice ok Y.length ck) ∧ Ivs u oj X ∧ Ivs u ok Y
theorem AnB.of {u0 u : World} {g B T cj ck : Nat} {l : Bool} {oj ok : Option Addr} {X Y : List (Int × Int)} {z0 z1 z2 : Value} (k : Below u0.heap.size u0 u) (hg : u0.heap.size ≤ g) (h : C3 u g z0 z1 z2) (r : RowsT u B T oj cj ok ck X Y) (hne : g < B ∨ T ≤ g) (hl : X.length ≤ 5 ∧ Y.length ≤ 2) :
    AnB u0 g l X Y (((u.setCell ⟨g, 0, none⟩ (.bool l)).setCell ⟨g, 1, none⟩ (.slice oj X.length cj)).setCell ⟨g, 2, none⟩ (.slice ok Y.length ck)) := by
  have q := ((((r.set hne (.bool l) (o := 0)).set hne (.slice oj X.length cj) (o := 1)).set hne (.slice ok Y.length ck) (o := 2))).1.ivs ⟨by omega, by omega⟩
  exact ⟨((k.setCell (by exact hg) _).setCell (by exact hg) _).setCell (by exact hg) _, hg, oj, cj, ok, ck, ((h.set0 _).set1 _).set2 _, q.1, q.2⟩
theorem joi_bad {vs fs : List ByteArray} {rs : List (ByteArray × Int)} {li lj : Bool} {xs ys xs2 ys2 : List (Int × Int)} (h : envB vs fs rs li xs ys = false ∨ envB vs fs rs lj xs2 ys2 = false) : joiL vs fs rs li xs ys lj xs2 ys2 = false ∧ joiV vs fs rs li xs ys lj xs2 ys2 = ([], []) := by
  unfold joiL joiV
  rcases h with h | h <;> simp [h]
theorem same_nil_c (oj ok : Option Addr) (cj ck : Nat) (u : World) : Calls Tryd.prog 17 #[.agg #[.bool false, .slice oj 0 cj, .slice ok 0 ck], .agg #[.bool false, .slice none 0 0, .slice none 0 0]] u fun e w' => e = .returned (.bool true) ∧ Below u.heap.size u w' := by
  have n : ∀ o : Option Addr, Ivs u o [] := fun o => ⟨by simp, .inl rfl⟩
  have q := sameEnv_c false oj ok cj ck [] [] false none none 0 0 [] [] u (n _) (n _) (n _) (n _)
  rw [sam_self] at q
  exact q
section
variable {vs fs : List ByteArray} {rs : List (ByteArray × Int)} {li lj lk : Bool} {xs ys xs2 ys2 xs3 ys3 : List (Int × Int)}
/-- What the joins and the meet of the law are. -/
def JnF (vs fs : List ByteArray) (rs : List (ByteArray × Int)) (li lj lk : Bool) (xs ys xs2 ys2 xs3 ys3 : List (Int × Int)) (jl xl kl : Bool) (jx jy xx xy kx ky : List (Int × Int)) : Prop :=
  (joiL vs fs rs li xs ys lj xs2 ys2 = jl ∧ joiV vs fs rs li xs ys lj xs2 ys2 = (jx, jy)) ∧
  (joiL vs fs rs jl jx jy lk xs3 ys3 = xl ∧ joiV vs fs rs jl jx jy lk xs3 ys3 = (xx, xy)) ∧
  (joiL vs fs rs lk xs3 ys3 lj xs2 ys2 = kl ∧ joiV vs fs rs lk xs3 ys3 lj xs2 ys2 = (kx, ky)) ∧
  (joiL vs fs rs li xs ys kl kx ky = xl ∧ joiV vs fs rs li xs ys kl kx ky = (xx, xy)) ∧
  (joiL vs fs rs li xs ys li xs ys = li ∧ joiV vs fs rs li xs ys li xs ys = (xs, ys)) ∧
  (metL vs fs rs li xs ys xl xx xy = li ∧ metV vs fs rs li xs ys xl xx xy = (xs, ys)) ∧
  (jx.length ≤ 5 ∧ jy.length ≤ 2) ∧ (xx.length ≤ 5 ∧ xy.length ≤ 2) ∧ (kx.length ≤ 5 ∧ ky.length ≤ 2) ∧ (xs.length ≤ 5 ∧ ys.length ≤ 2)
theorem jnf_of (h1 : envB vs fs rs li xs ys = true) (h2 : envB vs fs rs lj xs2 ys2 = true) (h3 : envB vs fs rs lk xs3 ys3 = true) : ∃ jl xl kl jx jy xx xy kx ky, JnF vs fs rs li lj lk xs ys xs2 ys2 xs3 ys3 jl xl kl jx jy xx xy kx ky := by
  have e12 := ord_env h1 h2
  have e32 := ord_env h3 h2
  have ex := ord_env e12 h3
  have e23 := ord_swap h2 h3
  have asc := ord_assoc h1 h2 h3
  rw [← e23.1, ← e23.2] at asc
  have ab := ord_above1 h1 e32
  rw [← asc.1, ← asc.2] at ab
  exact ⟨_, _, _, _, _, _, _, _, _, ⟨rfl, rfl⟩, ⟨rfl, rfl⟩, ⟨rfl, rfl⟩, ⟨asc.1.symm, asc.2.symm⟩, ord_self h1, ord_meet_above ab, env_few e12, env_few ex, env_few e32, env_few h1⟩
theorem grown_env (h2 : envB vs fs rs true xs2 ys2 = true) (hl : xs3.length = xs2.length ∧ ys3.length = ys2.length) (hi : ivsP (xs3 ++ ys3)) : envB vs fs rs true xs3 ys3 = true := by
  obtain ⟨b1, b2, _⟩ := env_live h2
  exact env_of (env_decl h2) (.inr ⟨rfl, by omega, by omega, hi⟩)
end
end Go.Proofs.YtoipaejbkcdioaaDoor

/- What is drawn for a join. -/
namespace Go.Proofs.YtoipaejbkcdioaaDoor
open Go.RowKit Go.Iv
set_option linter.unusedSimpArgs false
set_option linter.unusedVariables false

theorem Ivs.at3 {u v : World} {a : Option Addr} {xs : List (Int × Int)} (h : Ivs u a xs) (hb : ∀ x, a = some x → 0 < xs.length → v.heap[x.block]? = u.heap[x.block]?) : Ivs v a xs := by
  refine ⟨h.1, ?_⟩
  rcases h.2 with h0 | ⟨cb, co, rfl, hc⟩
  · exact .inl h0
  · exact .inr ⟨cb, co, rfl, fun i hi => ⟨(World.cell?_of_block (w := u) (a := ⟨cb, co + i * 2, none⟩) (hb ⟨cb, co, none⟩ rfl (by omega))).trans (hc i hi).1, (World.cell?_of_block (w := u) (a := ⟨cb, co + i * 2 + 1, none⟩) (hb ⟨cb, co, none⟩ rfl (by omega))).trans (hc i hi).2⟩⟩
/-- The rows of a declaration and of two bounds, none below n. -/
def DeC (u : World) (n : Nat) (a1 a2 a3 oa ob oc od : Option Addr) (vs fs : List ByteArray) (rs : List (ByteArray × Int)) (xs ys xs2 ys2 : List (Int × Int)) : Prop :=
  Strs u a1 vs ∧ Strs u a2 fs ∧ Arrs u a3 rs ∧ (Ivs u oa xs ∧ Ivs u ob ys) ∧ (Ivs u oc xs2 ∧ Ivs u od ys2) ∧ DeF n a1 a2 a3 oa ob oc od vs.length fs.length rs.length
theorem DeC.at' {u v : World} {n : Nat} {a1 a2 a3 oa ob oc od : Option Addr} {vs fs : List ByteArray} {rs : List (ByteArray × Int)} {xs ys xs2 ys2 : List (Int × Int)} (h : DeC u n a1 a2 a3 oa ob oc od vs fs rs xs ys xs2 ys2)
    (hb : ∀ g, n ≤ g → g < u.heap.size → v.heap[g]? = u.heap[g]?) : DeC v n a1 a2 a3 oa ob oc od vs fs rs xs ys xs2 ys2 := by
  obtain ⟨h1, h2, h3, ⟨h4, h5⟩, ⟨h6, h7⟩, f⟩ := h
  exact ⟨h1.at' fun x e h0 => hb _ (f.1 x e h0) (h1.lt' x e h0), h2.at' fun x e h0 => hb _ (f.2.1 x e h0) (h2.lt' x e h0), h3.at' fun x e h0 => hb _ (f.2.2.1 x e h0) (h3.lt' x e h0),
    ⟨h4.at3 fun x e h0 => hb _ (f.2.2.2.1 x e) (h4.lt x e h0), h5.at3 fun x e h0 => hb _ (f.2.2.2.2.1 x e) (h5.lt x e h0)⟩, ⟨h6.at3 fun x e h0 => hb _ (f.2.2.2.2.2.1 x e) (h6.lt x e h0), h7.at3 fun x e h0 => hb _ (f.2.2.2.2.2.2 x e) (h7.lt x e h0)⟩, f⟩
theorem w9_heap (v : World) (p q r g : Nat) (x0 x1 x2 x3 x4 x5 x6 x7 x8 : Value) (hp : g ≠ p) (hq : g ≠ q) (hr : g ≠ r) : (W9 v p q r x0 x1 x2 x3 x4 x5 x6 x7 x8).heap[g]? = v.heap[g]? := by
  unfold W9
  refine (Below.heap_setCell _ _ _ _ (by exact hr)).trans ((Below.heap_setCell _ _ _ _ (by exact hr)).trans ((Below.heap_setCell _ _ _ _ (by exact hr)).trans ?_))
  refine (Below.heap_setCell _ _ _ _ (by exact hq)).trans ((Below.heap_setCell _ _ _ _ (by exact hq)).trans ((Below.heap_setCell _ _ _ _ (by exact hq)).trans ?_))
  exact (Below.heap_setCell _ _ _ _ (by exact hp)).trans ((Below.heap_setCell _ _ _ _ (by exact hp)).trans (Below.heap_setCell _ _ _ _ (by exact hp)))
theorem DeC.w9 {v : World} {n p q r : Nat} {a1 a2 a3 oa ob oc od : Option Addr} {vs fs : List ByteArray} {rs : List (ByteArray × Int)} {xs ys xs2 ys2 : List (Int × Int)} {x0 x1 x2 x3 x4 x5 x6 x7 x8 : Value} (h : DeC v n a1 a2 a3 oa ob oc od vs fs rs xs ys xs2 ys2) (hp : p < n) (hq : q < n) (hr : r < n) :
    DeC (W9 v p q r x0 x1 x2 x3 x4 x5 x6 x7 x8) n a1 a2 a3 oa ob oc od vs fs rs xs ys xs2 ys2 := h.at' fun g h1 _ => w9_heap _ _ _ _ _ _ _ _ _ _ _ _ _ _ (by omega) (by omega) (by omega)
theorem DeF.down {n m : Nat} {a1 a2 a3 oa ob oc od : Option Addr} {l1 l2 l3 : Nat} (h : DeF n a1 a2 a3 oa ob oc od l1 l2 l3) (hm : m ≤ n) : DeF m a1 a2 a3 oa ob oc od l1 l2 l3 :=
  ⟨fun x e h0 => Nat.le_trans hm (h.1 x e h0), fun x e h0 => Nat.le_trans hm (h.2.1 x e h0), fun x e h0 => Nat.le_trans hm (h.2.2.1 x e h0), fun x e => Nat.le_trans hm (h.2.2.2.1 x e), fun x e => Nat.le_trans hm (h.2.2.2.2.1 x e), fun x e => Nat.le_trans hm (h.2.2.2.2.2.1 x e), fun x e => Nat.le_trans hm (h.2.2.2.2.2.2 x e)⟩
set_option maxRecDepth 20000 in
set_option maxHeartbeats 8000000 in
theorem DrawEnvJoin_c (a : Option Addr) (len cap : Nat) (w : World) (h : Code w a len) : Calls Tryd.prog 25 #[.slice a len cap] w (DeR w) := by
  have HC := hide h
  clear h
  have q0 := B3.new w (.slice none 0 0) (.slice none 0 0) (.slice none 0 0) (.bool false) (.slice none 0 0) (.slice none 0 0) (.bool false) (.slice none 0 0) (.slice none 0 0) 27 30 30
  have hs0 : w.heap.size + 3 ≤ (((w.alloc (Obj.cells #[.slice none 0 0, .slice none 0 0, .slice none 0 0] 27)).alloc (Obj.cells #[.bool false, .slice none 0 0, .slice none 0 0] 30)).alloc (Obj.cells #[.bool false, .slice none 0 0, .slice none 0 0] 30)).heap.size := by simp
  go_enter Tryd.func25, Tryd.ntmps25
  go_wp2_with fail
  generalize ((w.alloc (Obj.cells #[.slice none 0 0, .slice none 0 0, .slice none 0 0] 27)).alloc (Obj.cells #[.bool false, .slice none 0 0, .slice none 0 0] 30)).alloc (Obj.cells #[.bool false, .slice none 0 0, .slice none 0 0] 30) = u0 at q0 hs0 ⊢
  have HQ := hide q0
  clear q0
  refine (DrawEnvLeq_c a len cap u0 ((unhide HC).below (unhide HQ).2.2.2)).mono ?_
  rintro e u1 ⟨a1, a2, a3, c1, c2, c3, vs, fs, rs, li, oa, ca, ob, cb, xs, ys, lj, oc, cc, od, cd, xs2, ys2, rfl, s1, s2, s3, hz, i12, i34, hin, hfar, kb⟩
  have HD := hide (show DeC u1 u0.heap.size a1 a2 a3 oa ob oc od vs fs rs xs ys xs2 ys2 from ⟨s1, s2, s3, i12, i34, hfar⟩)
  have HZ := hide hz
  have HI := hide hin
  have HQ := hide ((unhide HQ).call kb)
  clear s1 s2 s3 i12 i34 hfar hz hin kb
  have r0 := (unhide HQ).1.1
  have r1 := (unhide HQ).1.2.1
  have r2 := (unhide HQ).1.2.2.1
  have rf0 := (unhide HQ).1.2.2.2 0
  have rf1 := (unhide HQ).1.2.2.2 1
  have rf2 := (unhide HQ).1.2.2.2 2
  have s0 := (unhide HQ).2.1.1
  have s1 := (unhide HQ).2.1.2.1
  have s2 := (unhide HQ).2.1.2.2.1
  have sf0 := (unhide HQ).2.1.2.2.2 0
  have sf1 := (unhide HQ).2.1.2.2.2 1
  have sf2 := (unhide HQ).2.1.2.2.2 2
  have t0 : u1.cell? ⟨w.heap.size + 1 + 1, 0, none⟩ = _ := (unhide HQ).2.2.1.1
  have t1 : u1.cell? ⟨w.heap.size + 1 + 1, 1, none⟩ = _ := (unhide HQ).2.2.1.2.1
  have t2 : u1.cell? ⟨w.heap.size + 1 + 1, 2, none⟩ = _ := (unhide HQ).2.2.1.2.2.1
  have tf0 : u1.frozen? ⟨w.heap.size + 1 + 1, 0, none⟩ = _ := (unhide HQ).2.2.1.2.2.2 0
  have tf1 : u1.frozen? ⟨w.heap.size + 1 + 1, 1, none⟩ = _ := (unhide HQ).2.2.1.2.2.2 1
  have tf2 : u1.frozen? ⟨w.heap.size + 1 + 1, 2, none⟩ = _ := (unhide HQ).2.2.1.2.2.2 2
  have nw1 : w.heap.size ≠ w.heap.size + 1 := by omega
  have nw2 : w.heap.size ≠ w.heap.size + 1 + 1 := by omega
  have nw3 : w.heap.size + 1 ≠ w.heap.size + 1 + 1 := by omega
  go_wp2
  have bD := DeC.w9 (unhide HD) (p := w.heap.size) (q := w.heap.size + 1) (r := w.heap.size + 1 + 1) (x0 := .slice a1 vs.length c1) (x1 := .slice a2 fs.length c2) (x2 := .slice a3 rs.length c3) (x3 := .bool li) (x4 := .slice oa xs.length ca) (x5 := .slice ob ys.length cb) (x6 := .bool lj) (x7 := .slice oc xs2.length cc) (x8 := .slice od ys2.length cd) (by omega) (by omega) (by omega)
  exact bodyPost_ret (v := .tuple #[.agg #[.slice a1 vs.length c1, .slice a2 fs.length c2, .slice a3 rs.length c3], .agg #[.bool li, .slice oa xs.length ca, .slice ob ys.length cb], .agg #[.bool lj, .slice oc xs2.length cc, .slice od ys2.length cd]]) (by simp [results, Tryd.results25, go_sem, r0, r1, r2, s0, s1, s2, t0, t1, t2]) rfl ⟨a1, a2, a3, c1, c2, c3, vs, fs, rs, li, oa, ca, ob, cb, xs, ys, lj, oc, cc, od, cd, xs2, ys2, rfl, bD.1, bD.2.1, bD.2.2.1, unhide HZ, bD.2.2.2.1, bD.2.2.2.2.1, unhide HI, bD.2.2.2.2.2.down (by omega), below_w9 (unhide HQ).2.2.2 (Nat.le_refl _) (Nat.le_succ _) (by omega)⟩
set_option maxRecDepth 20000 in
set_option maxHeartbeats 8000000 in
theorem DrawEnvMeet_c (a : Option Addr) (len cap : Nat) (w : World) (h : Code w a len) : Calls Tryd.prog 8 #[.slice a len cap] w (DeR w) := by
  have HC := hide h
  clear h
  have q0 := B3.new w (.slice none 0 0) (.slice none 0 0) (.slice none 0 0) (.bool false) (.slice none 0 0) (.slice none 0 0) (.bool false) (.slice none 0 0) (.slice none 0 0) 27 30 30
  have hs0 : w.heap.size + 3 ≤ (((w.alloc (Obj.cells #[.slice none 0 0, .slice none 0 0, .slice none 0 0] 27)).alloc (Obj.cells #[.bool false, .slice none 0 0, .slice none 0 0] 30)).alloc (Obj.cells #[.bool false, .slice none 0 0, .slice none 0 0] 30)).heap.size := by simp
  go_enter Tryd.func8, Tryd.ntmps8
  go_wp2_with fail
  generalize ((w.alloc (Obj.cells #[.slice none 0 0, .slice none 0 0, .slice none 0 0] 27)).alloc (Obj.cells #[.bool false, .slice none 0 0, .slice none 0 0] 30)).alloc (Obj.cells #[.bool false, .slice none 0 0, .slice none 0 0] 30) = u0 at q0 hs0 ⊢
  have HQ := hide q0
  clear q0
  refine (DrawEnvLeq_c a len cap u0 ((unhide HC).below (unhide HQ).2.2.2)).mono ?_
  rintro e u1 ⟨a1, a2, a3, c1, c2, c3, vs, fs, rs, li, oa, ca, ob, cb, xs, ys, lj, oc, cc, od, cd, xs2, ys2, rfl, s1, s2, s3, hz, i12, i34, hin, hfar, kb⟩
  have HD := hide (show DeC u1 u0.heap.size a1 a2 a3 oa ob oc od vs fs rs xs ys xs2 ys2 from ⟨s1, s2, s3, i12, i34, hfar⟩)
  have HZ := hide hz
  have HI := hide hin
  have HQ := hide ((unhide HQ).call kb)
  clear s1 s2 s3 i12 i34 hfar hz hin kb
  have r0 := (unhide HQ).1.1
  have r1 := (unhide HQ).1.2.1
  have r2 := (unhide HQ).1.2.2.1
  have rf0 := (unhide HQ).1.2.2.2 0
  have rf1 := (unhide HQ).1.2.2.2 1
  have rf2 := (unhide HQ).1.2.2.2 2
  have s0 := (unhide HQ).2.1.1
  have s1 := (unhide HQ).2.1.2.1
  have s2 := (unhide HQ).2.1.2.2.1
  have sf0 := (unhide HQ).2.1.2.2.2 0
  have sf1 := (unhide HQ).2.1.2.2.2 1
  have sf2 := (unhide HQ).2.1.2.2.2 2
  have t0 : u1.cell? ⟨w.heap.size + 1 + 1, 0, none⟩ = _ := (unhide HQ).2.2.1.1
  have t1 : u1.cell? ⟨w.heap.size + 1 + 1, 1, none⟩ = _ := (unhide HQ).2.2.1.2.1
  have t2 : u1.cell? ⟨w.heap.size + 1 + 1, 2, none⟩ = _ := (unhide HQ).2.2.1.2.2.1
  have tf0 : u1.frozen? ⟨w.heap.size + 1 + 1, 0, none⟩ = _ := (unhide HQ).2.2.1.2.2.2 0
  have tf1 : u1.frozen? ⟨w.heap.size + 1 + 1, 1, none⟩ = _ := (unhide HQ).2.2.1.2.2.2 1
  have tf2 : u1.frozen? ⟨w.heap.size + 1 + 1, 2, none⟩ = _ := (unhide HQ).2.2.1.2.2.2 2
  have nw1 : w.heap.size ≠ w.heap.size + 1 := by omega
  have nw2 : w.heap.size ≠ w.heap.size + 1 + 1 := by omega
  have nw3 : w.heap.size + 1 ≠ w.heap.size + 1 + 1 := by omega
  go_wp2
  have bD := DeC.w9 (unhide HD) (p := w.heap.size) (q := w.heap.size + 1) (r := w.heap.size + 1 + 1) (x0 := .slice a1 vs.length c1) (x1 := .slice a2 fs.length c2) (x2 := .slice a3 rs.length c3) (x3 := .bool li) (x4 := .slice oa xs.length ca) (x5 := .slice ob ys.length cb) (x6 := .bool lj) (x7 := .slice oc xs2.length cc) (x8 := .slice od ys2.length cd) (by omega) (by omega) (by omega)
  exact bodyPost_ret (v := .tuple #[.agg #[.slice a1 vs.length c1, .slice a2 fs.length c2, .slice a3 rs.length c3], .agg #[.bool li, .slice oa xs.length ca, .slice ob ys.length cb], .agg #[.bool lj, .slice oc xs2.length cc, .slice od ys2.length cd]]) (by simp [results, Tryd.results8, go_sem, r0, r1, r2, s0, s1, s2, t0, t1, t2]) rfl ⟨a1, a2, a3, c1, c2, c3, vs, fs, rs, li, oa, ca, ob, cb, xs, ys, lj, oc, cc, od, cd, xs2, ys2, rfl, bD.1, bD.2.1, bD.2.2.1, unhide HZ, bD.2.2.2.1, bD.2.2.2.2.1, unhide HI, bD.2.2.2.2.2.down (by omega), below_w9 (unhide HQ).2.2.2 (Nat.le_refl _) (Nat.le_succ _) (by omega)⟩
end Go.Proofs.YtoipaejbkcdioaaDoor

