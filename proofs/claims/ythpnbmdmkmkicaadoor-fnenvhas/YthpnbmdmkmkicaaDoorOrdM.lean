/- Joins and meets of bounds, and their order. -/
import Derived.Test.YthpnbmdmkmkicaaDoorSamC
import Derived.Test.YthpnbmdmkmkicaaDoorLeqD
import Derived.Test.YthpnbmdmkmkicaaDoorJoZ
import Derived.Test.YthpnbmdmkmkicaaDoorMeZ
namespace Go.Proofs.YthpnbmdmkmkicaaDoor
set_option linter.unusedSimpArgs false
set_option linter.unusedVariables false

theorem jn_leq1 (p q : Int × Int) (h1 : p.1 ≤ p.2) (h2 : q.1 ≤ q.2) : leqB p.1 p.2 (jn p q).1 (jn p q).2 = true := by
  unfold leqB jn joinL joinH mn mx
  simp only [h1, h2, and_self, if_true]
  refine decide_eq_true ⟨trivial, ?_, ?_, ?_⟩ <;> (repeat' split) <;> omega
theorem jn_comm (p q : Int × Int) (h1 : p.1 ≤ p.2) (h2 : q.1 ≤ q.2) : jn p q = jn q p := by
  unfold jn joinL joinH mn mx
  simp only [h1, h2, and_self, if_true]
  refine Prod.ext ?_ ?_ <;> (simp only []; split <;> split <;> omega)
theorem jn_iff (p q : Int × Int) (h1 : p.1 ≤ p.2) (h2 : q.1 ≤ q.2) : leqB p.1 p.2 q.1 q.2 = true ↔ jn p q = q := by
  obtain ⟨a, b⟩ := p
  obtain ⟨c, d⟩ := q
  simp only at h1 h2
  unfold leqB jn joinL joinH mn mx
  simp only [h1, h2, and_self, if_true, decide_eq_true_eq, Prod.mk.injEq]
  constructor
  · intro h
    constructor <;> split <;> omega
  · rintro ⟨e1, e2⟩
    refine ⟨trivial, trivial, ?_, ?_⟩
    · split at e1 <;> omega
    · split at e2 <;> omega
theorem jn_ok (p q : Int × Int) (h1 : p.1 ≤ p.2) (h2 : q.1 ≤ q.2) : (jn p q).1 ≤ (jn p q).2 := by
  unfold jn joinL joinH mn mx
  simp only [h1, h2, and_self, if_true]
  split <;> split <;> omega
theorem mt_ok (p q : Int × Int) (h : meetB p.1 p.2 q.1 q.2 = true) : (mt p q).1 ≤ (mt p q).2 := by
  have h := of_decide_eq_true h
  unfold mt meetL meetH
  simp only [h, if_true]
theorem mt_leq1 (p q : Int × Int) (h1 : p.1 ≤ p.2) (h : meetB p.1 p.2 q.1 q.2 = true) : leqB (mt p q).1 (mt p q).2 p.1 p.2 = true := by
  have h := of_decide_eq_true h
  unfold mt meetL meetH
  simp only [h, if_true]
  unfold leqB
  refine decide_eq_true ?_
  unfold mx mn at *
  refine ⟨h, h1, ?_, ?_⟩ <;> split <;> omega
theorem mt_leq2 (p q : Int × Int) (h1 : q.1 ≤ q.2) (h : meetB p.1 p.2 q.1 q.2 = true) : leqB (mt p q).1 (mt p q).2 q.1 q.2 = true := by
  have h := of_decide_eq_true h
  unfold mt meetL meetH
  simp only [h, if_true]
  unfold leqB
  refine decide_eq_true ?_
  unfold mx mn at *
  refine ⟨h, h1, ?_, ?_⟩ <;> split <;> omega
section
variable {Z T : List (Int × Int)}
theorem jn_at (k : Nat) (h : k < (List.zipWith jn Z T).length) : (List.zipWith jn Z T)[k] = jn (Z[k]'(by simp at h; omega)) (T[k]'(by simp at h; omega)) := List.getElem_zipWith
theorem jn_ivs (hz : ivsP Z) (ht : ivsP T) : ivsP (List.zipWith jn Z T) := by
  intro k h
  rw [jn_at k h]
  simp at h
  exact jn_ok _ _ (hz k (by omega)) (ht k (by omega))
theorem jn_swap (hl : Z.length = T.length) (hz : ivsP Z) (ht : ivsP T) : List.zipWith jn Z T = List.zipWith jn T Z := by
  refine List.ext_getElem (by simp; omega) fun k h1 h2 => ?_
  rw [jn_at k h1, jn_at k h2]
  simp at h1
  exact jn_comm _ _ (hz k (by omega)) (ht k (by omega))
theorem jn_above (hz : ivsP Z) (ht : ivsP T) : leqsP Z (List.zipWith jn Z T) := by
  intro k h1 h2
  rw [jn_at k h2]
  simp at h2
  exact jn_leq1 _ _ (hz k (by omega)) (ht k (by omega))
theorem jn_just (hl : Z.length = T.length) (hz : ivsP Z) (ht : ivsP T) : leqsP Z T ↔ List.zipWith jn Z T = T := by
  constructor
  · intro h
    refine List.ext_getElem (by simp; omega) fun k h1 h2 => ?_
    rw [jn_at k h1]
    exact (jn_iff _ _ (hz k (by omega)) (ht k h2)).1 (h k (by omega) h2)
  · intro h k h1 h2
    refine (jn_iff _ _ (hz k h1) (ht k h2)).2 ?_
    have e : (List.zipWith jn Z T)[k]'(by simp; omega) = T[k] := by simp only [h]
    rw [jn_at] at e
    exact e
theorem mt_at (k : Nat) (h : k < (List.zipWith mt Z T).length) : (List.zipWith mt Z T)[k] = mt (Z[k]'(by simp at h; omega)) (T[k]'(by simp at h; omega)) := List.getElem_zipWith
theorem mt_ivs (hm : metP Z T) : ivsP (List.zipWith mt Z T) := by
  intro k h
  rw [mt_at k h]
  simp at h
  exact mt_ok _ _ (hm k (by omega) (by omega))
theorem mt_below1 (hz : ivsP Z) (hm : metP Z T) : leqsP (List.zipWith mt Z T) Z := by
  intro k h1 h2
  rw [mt_at k h1]
  simp at h1
  exact mt_leq1 _ _ (hz k h2) (hm k (by omega) (by omega))
theorem mt_below2 (ht : ivsP T) (hm : metP Z T) : leqsP (List.zipWith mt Z T) T := by
  intro k h1 h2
  rw [mt_at k h1]
  simp at h1
  exact mt_leq2 _ _ (ht k h2) (hm k (by omega) (by omega))
end
section
variable {vs fs : List ByteArray} {rs : List (ByteArray × Int)} {li lj : Bool} {xs ys xs2 ys2 : List (Int × Int)}
theorem env_decl (h : envB vs fs rs li xs ys = true) : declB vs fs rs = true := by unfold envB at h; rw [Bool.and_eq_true] at h; exact h.1
theorem env_fit (h : envB vs fs rs li xs ys = true) : fitP vs.length rs.length li xs ys := by unfold envB at h; rw [Bool.and_eq_true] at h; exact of_decide_eq_true h.2
theorem env_of (h : declB vs fs rs = true) (k : fitP vs.length rs.length li xs ys) : envB vs fs rs li xs ys = true := by unfold envB; rw [h]; exact decide_eq_true k
theorem env_dead (h : envB vs fs rs false xs ys = true) : xs = [] ∧ ys = [] := by
  rcases env_fit h with ⟨_, h1, h2⟩ | ⟨h1, _⟩
  · exact ⟨List.eq_nil_of_length_eq_zero h1, List.eq_nil_of_length_eq_zero h2⟩
  · cases h1
theorem env_live (h : envB vs fs rs true xs ys = true) : xs.length = vs.length ∧ ys.length = rs.length ∧ ivsP (xs ++ ys) := by
  rcases env_fit h with ⟨h1, _⟩ | ⟨_, h1⟩
  · cases h1
  · exact h1
theorem joi_ll (h1 : envB vs fs rs true xs ys = true) (h2 : envB vs fs rs true xs2 ys2 = true) : joiL vs fs rs true xs ys true xs2 ys2 = true ∧ joiV vs fs rs true xs ys true xs2 ys2 = (List.zipWith jn xs xs2, List.zipWith jn ys ys2) := by
  constructor
  · unfold joiL; rw [h1, h2]; rfl
  · unfold joiV; rw [if_pos ⟨h1, h2⟩]; rfl
theorem joi_lf (h1 : envB vs fs rs true xs ys = true) (h2 : envB vs fs rs false xs2 ys2 = true) : joiL vs fs rs true xs ys false xs2 ys2 = true ∧ joiV vs fs rs true xs ys false xs2 ys2 = (xs, ys) := by
  constructor
  · unfold joiL; rw [h1, h2]; rfl
  · unfold joiV; rw [if_pos ⟨h1, h2⟩]; rfl
theorem joi_f (h1 : envB vs fs rs false xs ys = true) (h2 : envB vs fs rs lj xs2 ys2 = true) : joiL vs fs rs false xs ys lj xs2 ys2 = lj ∧ joiV vs fs rs false xs ys lj xs2 ys2 = (xs2, ys2) := by
  constructor
  · unfold joiL; rw [h1, h2]; simp
  · unfold joiV; rw [if_pos ⟨h1, h2⟩]; rfl
theorem zip_app (f : Int × Int → Int × Int → Int × Int) (h : xs.length = xs2.length) : List.zipWith f xs xs2 ++ List.zipWith f ys ys2 = List.zipWith f (xs ++ ys) (xs2 ++ ys2) := (List.zipWith_append h).symm
theorem leqs_self {Z : List (Int × Int)} (h : ivsP Z) : leqsP Z Z := fun k h1 h2 => by
  unfold leqB
  have := h k h1
  exact decide_eq_true (by omega)
/-- A join is right. -/
theorem ord_env (h1 : envB vs fs rs li xs ys = true) (h2 : envB vs fs rs lj xs2 ys2 = true) : envB vs fs rs (joiL vs fs rs li xs ys lj xs2 ys2) (joiV vs fs rs li xs ys lj xs2 ys2).1 (joiV vs fs rs li xs ys lj xs2 ys2).2 = true := by
  cases li
  · rw [(joi_f h1 h2).1, (joi_f h1 h2).2]; exact h2
  · cases lj
    · rw [(joi_lf h1 h2).1, (joi_lf h1 h2).2]; exact h1
    · rw [(joi_ll h1 h2).1, (joi_ll h1 h2).2]
      obtain ⟨a1, a2, a3⟩ := env_live h1
      obtain ⟨b1, b2, b3⟩ := env_live h2
      refine env_of (env_decl h1) (.inr ⟨rfl, by simp; omega, by simp; omega, ?_⟩)
      simp only
      rw [zip_app jn (by omega)]
      exact jn_ivs a3 b3
/-- It is above the first one. -/
theorem ord_above1 (h1 : envB vs fs rs li xs ys = true) (h2 : envB vs fs rs lj xs2 ys2 = true) : leqD vs fs rs li xs ys (joiL vs fs rs li xs ys lj xs2 ys2) (joiV vs fs rs li xs ys lj xs2 ys2).1 (joiV vs fs rs li xs ys lj xs2 ys2).2 = true := by
  unfold leqD
  rw [h1, ord_env h1 h2]
  cases li
  · rfl
  · cases lj
    · rw [(joi_lf h1 h2).1, (joi_lf h1 h2).2]
      have := decide_eq_true (leqs_self (env_live h1).2.2)
      unfold leqE; rw [this]; rfl
    · rw [(joi_ll h1 h2).1, (joi_ll h1 h2).2]
      obtain ⟨a1, a2, a3⟩ := env_live h1
      obtain ⟨b1, b2, b3⟩ := env_live h2
      simp only
      rw [zip_app jn (by omega)]
      have := decide_eq_true (jn_above a3 b3)
      unfold leqE; rw [this]; rfl
/-- Both ways round it is the same. -/
theorem ord_swap (h1 : envB vs fs rs li xs ys = true) (h2 : envB vs fs rs lj xs2 ys2 = true) : joiL vs fs rs lj xs2 ys2 li xs ys = joiL vs fs rs li xs ys lj xs2 ys2 ∧ joiV vs fs rs lj xs2 ys2 li xs ys = joiV vs fs rs li xs ys lj xs2 ys2 := by
  cases li
  · obtain ⟨rfl, rfl⟩ := env_dead h1
    cases lj
    · obtain ⟨rfl, rfl⟩ := env_dead h2
      exact ⟨rfl, rfl⟩
    · rw [(joi_f h1 h2).1, (joi_f h1 h2).2]
      exact joi_lf h2 h1
  · cases lj
    · obtain ⟨rfl, rfl⟩ := env_dead h2
      rw [(joi_lf h1 h2).1, (joi_lf h1 h2).2]
      exact joi_f h2 h1
    · obtain ⟨a1, a2, a3⟩ := env_live h1
      obtain ⟨b1, b2, b3⟩ := env_live h2
      rw [(joi_ll h1 h2).1, (joi_ll h1 h2).2, (joi_ll h2 h1).1, (joi_ll h2 h1).2]
      refine ⟨rfl, ?_⟩
      have a4 : ivsP xs := fun k h => by have := a3 k (by simp; omega); rw [List.getElem_append_left h] at this; exact this
      have b4 : ivsP xs2 := fun k h => by have := b3 k (by simp; omega); rw [List.getElem_append_left h] at this; exact this
      have a5 : ivsP ys := fun k h => by have := a3 (xs.length + k) (by simp; omega); rw [List.getElem_append_right (by omega)] at this; simpa using this
      have b5 : ivsP ys2 := fun k h => by have := b3 (xs2.length + k) (by simp; omega); rw [List.getElem_append_right (by omega)] at this; simpa using this
      rw [jn_swap (by omega) b4 a4, jn_swap (by omega) b5 a5]
theorem ord_above2 (h1 : envB vs fs rs li xs ys = true) (h2 : envB vs fs rs lj xs2 ys2 = true) : leqD vs fs rs lj xs2 ys2 (joiL vs fs rs li xs ys lj xs2 ys2) (joiV vs fs rs li xs ys lj xs2 ys2).1 (joiV vs fs rs li xs ys lj xs2 ys2).2 = true := by
  have k := ord_above1 h2 h1
  rw [(ord_swap h1 h2).1, (ord_swap h1 h2).2] at k
  exact k
/-- One is below the other one just when the join is that. -/
theorem ord_just (h1 : envB vs fs rs li xs ys = true) (h2 : envB vs fs rs lj xs2 ys2 = true) : leqD vs fs rs li xs ys lj xs2 ys2 = samB (joiL vs fs rs li xs ys lj xs2 ys2) (joiV vs fs rs li xs ys lj xs2 ys2).1 (joiV vs fs rs li xs ys lj xs2 ys2).2 lj xs2 ys2 := by
  unfold leqD
  rw [h1, h2]
  cases li
  · rw [(joi_f h1 h2).1, (joi_f h1 h2).2]
    simp [leqE, samB]
  · cases lj
    · rw [(joi_lf h1 h2).1, (joi_lf h1 h2).2]
      simp [leqE, samB]
    · rw [(joi_ll h1 h2).1, (joi_ll h1 h2).2]
      obtain ⟨a1, a2, a3⟩ := env_live h1
      obtain ⟨b1, b2, b3⟩ := env_live h2
      have e := jn_just (by simp; omega) a3 b3
      rw [← zip_app jn (by omega)] at e
      have e2 : List.zipWith jn xs xs2 ++ List.zipWith jn ys ys2 = xs2 ++ ys2 ↔ List.zipWith jn xs xs2 = xs2 ∧ List.zipWith jn ys ys2 = ys2 := by
        constructor
        · intro h
          exact List.append_inj h (by simp; omega)
        · rintro ⟨q1, q2⟩
          rw [q1, q2]
      rw [e2] at e
      simp [leqE, samB, e]
/-- A meet is right, and below both. -/
theorem ord_meet (h1 : envB vs fs rs li xs ys = true) (h2 : envB vs fs rs lj xs2 ys2 = true) :
    envB vs fs rs (metL vs fs rs li xs ys lj xs2 ys2) (metV vs fs rs li xs ys lj xs2 ys2).1 (metV vs fs rs li xs ys lj xs2 ys2).2 = true ∧
    leqD vs fs rs (metL vs fs rs li xs ys lj xs2 ys2) (metV vs fs rs li xs ys lj xs2 ys2).1 (metV vs fs rs li xs ys lj xs2 ys2).2 li xs ys = true ∧
    leqD vs fs rs (metL vs fs rs li xs ys lj xs2 ys2) (metV vs fs rs li xs ys lj xs2 ys2).1 (metV vs fs rs li xs ys lj xs2 ys2).2 lj xs2 ys2 = true := by
  cases hm : metL vs fs rs li xs ys lj xs2 ys2
  · rw [metV_no hm]
    have h0 : envB vs fs rs false [] [] = true := env_of (env_decl h1) (.inl ⟨rfl, rfl, rfl⟩)
    refine ⟨h0, ?_, ?_⟩
    · unfold leqD; rw [h0, h1]; rfl
    · unfold leqD; rw [h0, h2]; rfl
  · rw [metV_yes hm]
    have hm2 := hm
    unfold metL at hm2
    simp only [Bool.and_eq_true, decide_eq_true_eq] at hm2
    obtain ⟨_, _, rfl, rfl, hmp⟩ := hm2
    obtain ⟨a1, a2, a3⟩ := env_live h1
    obtain ⟨b1, b2, b3⟩ := env_live h2
    have h0 : envB vs fs rs true (List.zipWith mt xs xs2) (List.zipWith mt ys ys2) = true := by
      refine env_of (env_decl h1) (.inr ⟨rfl, by simp; omega, by simp; omega, ?_⟩)
      rw [zip_app mt (by omega)]
      exact mt_ivs hmp
    refine ⟨h0, ?_, ?_⟩
    · unfold leqD
      rw [h0, h1]
      simp only
      rw [zip_app mt (by omega)]
      have := decide_eq_true (mt_below1 a3 hmp)
      unfold leqE; rw [this]; rfl
    · unfold leqD
      rw [h0, h2]
      simp only
      rw [zip_app mt (by omega)]
      have := decide_eq_true (mt_below2 b3 hmp)
      unfold leqE; rw [this]; rfl
end
theorem sam_self (l : Bool) (xs ys : List (Int × Int)) : samB l xs ys l xs ys = true := by simp [samB]
end Go.Proofs.YthpnbmdmkmkicaaDoor
