/- Stores that joins and meets have. -/
import Derived.Test.YtpdnnpnclgcpoaaDoorInsC
import Derived.Test.YtpdnnpnclgcpoaaDoorSoZ
namespace Go.Proofs.YtpdnnpnclgcpoaaDoor
open Go.RowKit Go.Iv
set_option linter.unusedSimpArgs false
set_option linter.unusedVariables false

section
variable {vs fs : List ByteArray} {rs : List (ByteArray × Int)} {li lj : Bool} {xs ys xs2 ys2 : List (Int × Int)} {is : List Int} {bs : List Bool} {js : List (List Int)}
theorem has_parts (h : hasD vs fs rs li xs ys is bs js = true) : envB vs fs rs li xs ys = true ∧ storeB vs fs rs is bs js = true ∧ li = true ∧ has1P xs is ∧ has2P ys js := by
  unfold hasD hasIn at h
  simp only [Bool.and_eq_true] at h
  exact ⟨h.1, h.2.1, h.2.2.1, of_decide_eq_true h.2.2.2.1, of_decide_eq_true h.2.2.2.2⟩
theorem has_of (h1 : envB vs fs rs true xs ys = true) (h2 : storeB vs fs rs is bs js = true) (h3 : has1P xs is) (h4 : has2P ys js) : hasD vs fs rs true xs ys is bs js = true := by
  unfold hasD hasIn
  rw [h1, h2, decide_eq_true h3, decide_eq_true h4]
  rfl
/-- A store of which all is within the bounds is one that these have. -/
theorem has_all2 (h : envB vs fs rs true xs ys = true) (hf : InF xs ys fs rs is bs js) (h1 : In1 xs is xs.length) (h2 : In2 ys js ys.length) : hasD vs fs rs true xs ys is bs js = true := by
  obtain ⟨l1, l2, _⟩ := env_live h
  refine has_of h ?_ (fun k q1 q2 => decide_eq_true (h1 k q1 q2 q1)) (fun k q1 q2 t q3 => decide_eq_true (h2 k q1 q2 q1 t q3))
  unfold storeB
  rw [env_decl h, Bool.true_and]
  refine decide_eq_true ⟨by rw [hf.1]; exact l1, hf.2.1, hf.2.2.1, fun k hk => ?_⟩
  have hk2 : k < js.length := by rw [hf.2.2.1]; exact hk
  have := hf.2.2.2 k hk2 hk
  simpa [List.getD, List.getElem?_eq_getElem hk2] using this
/-- What is above has it, too. -/
theorem has_mono (h : leqD vs fs rs li xs ys lj xs2 ys2 = true) (hs : hasD vs fs rs li xs ys is bs js = true) : hasD vs fs rs lj xs2 ys2 is bs js = true := by
  obtain ⟨q1, q2, rfl, q3, q4⟩ := has_parts hs
  unfold leqD leqE at h
  simp only [Bool.and_eq_true, Bool.not_true, Bool.false_or, decide_eq_true_eq] at h
  obtain ⟨_, h2, rfl, h3⟩ := h
  obtain ⟨a1, a2, _⟩ := env_live q1
  obtain ⟨b1, b2, _⟩ := env_live h2
  refine has_of h2 q2 (fun k k1 k2 => ?_) (fun k k1 k2 t k3 => ?_)
  · have p := of_decide_eq_true (h3 k (by simp; omega) (by simp; omega))
    have r := of_decide_eq_true (q3 k (by omega) k2)
    rw [List.getElem_append_left (by omega), List.getElem_append_left (by omega)] at p
    exact decide_eq_true (by omega)
  · have p := of_decide_eq_true (h3 (xs.length + k) (by simp; omega) (by simp; omega))
    have r := of_decide_eq_true (q4 k (by omega) k2 t k3)
    rw [List.getElem_append_right (by omega), List.getElem_append_right (by omega)] at p
    have e1 : xs.length + k - xs.length = k := by omega
    have e2 : xs.length + k - xs2.length = k := by omega
    simp only [e1, e2] at p
    exact decide_eq_true (by omega)
/-- A meet has just what both have. -/
theorem has_meet (h1 : envB vs fs rs li xs ys = true) (h2 : envB vs fs rs lj xs2 ys2 = true) (ha : hasD vs fs rs li xs ys is bs js = true) :
    hasD vs fs rs (metL vs fs rs li xs ys lj xs2 ys2) (metV vs fs rs li xs ys lj xs2 ys2).1 (metV vs fs rs li xs ys lj xs2 ys2).2 is bs js = hasD vs fs rs lj xs2 ys2 is bs js := by
  obtain ⟨m1, m2, m3⟩ := ord_meet h1 h2
  cases hb : hasD vs fs rs lj xs2 ys2 is bs js
  · cases hm : hasD vs fs rs (metL vs fs rs li xs ys lj xs2 ys2) (metV vs fs rs li xs ys lj xs2 ys2).1 (metV vs fs rs li xs ys lj xs2 ys2).2 is bs js
    · rfl
    · have := has_mono m3 hm
      rw [hb] at this
      cases this
  · obtain ⟨q1, q2, rfl, q3, q4⟩ := has_parts ha
    obtain ⟨_, _, rfl, r3, r4⟩ := has_parts hb
    obtain ⟨a1, a2, _⟩ := env_live h1
    obtain ⟨b1, b2, _⟩ := env_live h2
    have sd : declP vs fs rs := of_decide_eq_true (env_decl h1)
    have sp : stoP vs.length fs.length rs is bs js := by unfold storeB at q2; rw [Bool.and_eq_true] at q2; exact of_decide_eq_true q2.2
    obtain ⟨s1, s2, s3, s4⟩ := sp
    have hmet : metP (xs ++ ys) (xs2 ++ ys2) := by
      intro k k1 k2
      by_cases hx : k < xs.length
      · rw [List.getElem_append_left hx, List.getElem_append_left (by omega)]
        have u := of_decide_eq_true (q3 k hx (by omega))
        have v := of_decide_eq_true (r3 k (by omega) (by omega))
        unfold meetB mx mn
        refine decide_eq_true ?_
        split <;> split <;> omega
      · obtain ⟨t, rfl⟩ : ∃ t, k = xs.length + t := ⟨k - xs.length, by omega⟩
        have ht : t < ys.length := by simp at k1; omega
        rw [List.getElem_append_right (by omega), List.getElem_append_right (by omega)]
        have e1 : xs.length + t - xs.length = t := by omega
        have e2 : xs.length + t - xs2.length = t := by omega
        simp only [e1, e2]
        have htr : t < rs.length := by omega
        have htj : t < js.length := by omega
        have hsz := s4 t htr
        have h1sz := (sd.2.2.2.1 t htr).1
        have h0 : 0 < (js[t]).length := by
          simp only [List.getD, List.getElem?_eq_getElem htj, Option.getD_some] at hsz
          omega
        have u := of_decide_eq_true (q4 t ht htj 0 h0)
        have v := of_decide_eq_true (r4 t (by omega) htj 0 h0)
        unfold meetB mx mn
        refine decide_eq_true ?_
        split <;> split <;> omega
    have hml : metL vs fs rs true xs ys true xs2 ys2 = true := by rw [metL_both h1 h2]; exact decide_eq_true hmet
    rw [metV_yes hml] at m1 m2 m3 ⊢
    rw [hml] at m1 m2 m3 ⊢
    have mtin : ∀ (p q : Int × Int) (n : Int), meetB p.1 p.2 q.1 q.2 = true → (p.1 ≤ n ∧ n ≤ p.2) → (q.1 ≤ n ∧ n ≤ q.2) → (mt p q).1 ≤ n ∧ n ≤ (mt p q).2 := by
      intro p q n h u v
      have h := of_decide_eq_true h
      unfold mt meetL meetH
      simp only [h, if_true]
      unfold mx mn
      constructor <;> split <;> omega
    refine has_of m1 q2 (fun k k1 k2 => ?_) (fun k k1 k2 t k3 => ?_)
    · simp at k1
      simp only [List.getElem_zipWith]
      have m := hmet k (by simp; omega) (by simp; omega)
      rw [List.getElem_append_left (by omega), List.getElem_append_left (by omega)] at m
      exact decide_eq_true (mtin _ _ _ m (of_decide_eq_true (q3 k (by omega) k2)) (of_decide_eq_true (r3 k (by omega) k2)))
    · simp at k1
      simp only [List.getElem_zipWith]
      have m := hmet (xs.length + k) (by simp; omega) (by simp; omega)
      rw [List.getElem_append_right (by omega), List.getElem_append_right (by omega)] at m
      have e1 : xs.length + k - xs.length = k := by omega
      have e2 : xs.length + k - xs2.length = k := by omega
      simp only [e1, e2] at m
      exact decide_eq_true (mtin _ _ _ m (of_decide_eq_true (q4 k (by omega) k2 t k3)) (of_decide_eq_true (r4 k (by omega) k2 t k3)))
/-- What the law asks of joins and the meet. -/
theorem has_law (h1 : envB vs fs rs li xs ys = true) (h2 : envB vs fs rs lj xs2 ys2 = true) (ha : hasD vs fs rs li xs ys is bs js = true) {jl ml : Bool} {jx jy mx my : List (Int × Int)} (ej : joiL vs fs rs li xs ys lj xs2 ys2 = jl ∧ joiV vs fs rs li xs ys lj xs2 ys2 = (jx, jy)) (em : metL vs fs rs li xs ys lj xs2 ys2 = ml ∧ metV vs fs rs li xs ys lj xs2 ys2 = (mx, my)) :
    hasD vs fs rs jl jx jy is bs js = true ∧ hasD vs fs rs ml mx my is bs js = hasD vs fs rs lj xs2 ys2 is bs js := by
  have a := has_mono (ord_above1 h1 h2) ha
  have m := has_meet h1 h2 ha
  rw [ej.1, ej.2] at a
  rw [em.1, em.2] at m
  exact ⟨a, m⟩
end
end Go.Proofs.YtpdnnpnclgcpoaaDoor
