/- Widened bounds: above both, and they stay. -/
import Derived.Test.YtoipaejbkcdioaaDoorOrdM
import Derived.Test.YtoipaejbkcdioaaDoorWdY
import Derived.Test.YtoipaejbkcdioaaDoorDrwE
namespace Go.Proofs.YtoipaejbkcdioaaDoor
open Go.RowKit Go.Iv
set_option linter.unusedSimpArgs false
set_option linter.unusedVariables false

theorem dnf_le (n : Int) (zs : List Int) : ∀ b, b ≤ n → zs.foldl (fun b s => if s ≤ n then mx b s else b) b ≤ n := by
  induction zs with
  | nil => intro b hb; exact hb
  | cons s zs ih =>
    intro b hb
    simp only [List.foldl_cons]
    refine ih _ ?_
    split
    · unfold mx; split <;> omega
    · exact hb
theorem upf_ge (n : Int) (zs : List Int) : ∀ b, n ≤ b → n ≤ zs.foldl (fun b s => if n ≤ s then mn b s else b) b := by
  induction zs with
  | nil => intro b hb; exact hb
  | cons s zs ih =>
    intro b hb
    simp only [List.foldl_cons]
    refine ih _ ?_
    split
    · unfold mn; split <;> omega
    · exact hb
theorem dn_le {n : Int} (h : In n) (zs : List Int) : dn n zs ≤ n := dnf_le n zs _ (by unfold In at h; omega)
theorem up_ge {n : Int} (h : In n) (zs : List Int) : n ≤ up n zs := upf_ge n zs _ (by unfold In at h; omega)
/-- What is widened has both. -/
theorem wd_has {st : List Int} {p q : Int × Int} (hn : st.length ≤ 100) (h1 : p.1 ≤ p.2) (h2 : q.1 ≤ q.2) (hq : In q.1 ∧ In q.2) : (wd st p q).1 ≤ p.1 ∧ p.2 ≤ (wd st p q).2 ∧ (wd st p q).1 ≤ q.1 ∧ q.2 ≤ (wd st p q).2 := by
  have d := dn_le hq.1 st
  have u := up_ge hq.2 st
  unfold wd widL widH
  simp only [h1, h2, hn, and_self, if_true]
  refine ⟨?_, ?_, ?_, ?_⟩ <;> split <;> omega
/-- What has it stays. -/
theorem wd_stay {st : List Int} {p q : Int × Int} (hn : st.length ≤ 100) (h1 : p.1 ≤ p.2) (h2 : q.1 ≤ q.2) (k1 : p.1 ≤ q.1) (k2 : q.2 ≤ p.2) : wd st p q = p := by
  unfold wd widL widH
  simp only [h1, h2, hn, and_self, if_true]
  rw [if_neg (by omega), if_neg (by omega)]
section
variable {st : List Int} {Z T : List (Int × Int)}
theorem wd_at (k : Nat) (h : k < (List.zipWith (wd st) Z T).length) : (List.zipWith (wd st) Z T)[k] = wd st (Z[k]'(by simp at h; omega)) (T[k]'(by simp at h; omega)) := List.getElem_zipWith
theorem in_at (ht : InL T) (k : Nat) (h : k < T.length) : In T[k].1 ∧ In T[k].2 := ht _ (List.getElem_mem h)
theorem wd_ivs (hn : st.length ≤ 100) (hz : ivsP Z) (ht : ivsP T) (hi : InL T) : ivsP (List.zipWith (wd st) Z T) := by
  intro k h
  rw [wd_at k h]
  simp at h
  have a := hz k (by omega)
  have q := wd_has hn a (ht k (by omega)) (in_at hi k (by omega))
  omega
theorem wd_above1 (hn : st.length ≤ 100) (hz : ivsP Z) (ht : ivsP T) (hi : InL T) : leqsP Z (List.zipWith (wd st) Z T) := by
  intro k h1 h2
  rw [wd_at k h2]
  simp at h2
  have a := hz k (by omega)
  have q := wd_has hn a (ht k (by omega)) (in_at hi k (by omega))
  unfold leqB
  exact decide_eq_true (by omega)
theorem wd_above2 (hn : st.length ≤ 100) (hz : ivsP Z) (ht : ivsP T) (hi : InL T) : leqsP T (List.zipWith (wd st) Z T) := by
  intro k h1 h2
  rw [wd_at k h2]
  simp at h2
  have a := ht k (by omega)
  have q := wd_has hn (hz k (by omega)) a (in_at hi k (by omega))
  unfold leqB
  exact decide_eq_true (by omega)
theorem wd_zip_stay {s2 : List Int} (hl : Z.length = T.length) (hn : s2.length ≤ 100) (h : leqsP T Z) : List.zipWith (wd s2) Z T = Z := by
  refine List.ext_getElem (by simp; omega) fun k l1 l2 => ?_
  rw [wd_at k l1]
  have q := of_decide_eq_true (h k (by omega) (by omega))
  exact wd_stay hn (by omega) (by omega) (by omega) (by omega)
end
section
variable {st s2 : List Int} {vs fs : List ByteArray} {rs : List (ByteArray × Int)} {li lj : Bool} {xs ys xs2 ys2 : List (Int × Int)}
theorem wdn_ws (hn : st.length ≤ 100) (h1 : envB vs fs rs li xs ys = true) (h2 : envB vs fs rs lj xs2 ys2 = true) : wdnL st vs fs rs li xs ys lj xs2 ys2 = (li || lj) ∧ wdnV st vs fs rs li xs ys lj xs2 ys2 = wsV st li lj xs ys xs2 ys2 :=
  ⟨(wdn_few hn).1.trans (wid_ws (st := st) h1 h2).1, (wdn_few hn).2.trans (wid_ws h1 h2).2⟩
theorem inl_app (h1 : InL xs) (h2 : InL ys) : InL (xs ++ ys) := fun p hp => (List.mem_append.1 hp).elim (h1 p) (h2 p)
/-- What is widened is right, and above both. -/
theorem wdn_above (hn : st.length ≤ 100) (h1 : envB vs fs rs li xs ys = true) (h2 : envB vs fs rs lj xs2 ys2 = true) (hi : InL xs2 ∧ InL ys2) :
    envB vs fs rs (li || lj) (wsV st li lj xs ys xs2 ys2).1 (wsV st li lj xs ys xs2 ys2).2 = true ∧
    leqD vs fs rs li xs ys (li || lj) (wsV st li lj xs ys xs2 ys2).1 (wsV st li lj xs ys xs2 ys2).2 = true ∧
    leqD vs fs rs lj xs2 ys2 (li || lj) (wsV st li lj xs ys xs2 ys2).1 (wsV st li lj xs ys xs2 ys2).2 = true := by
  have hs : ∀ {l : Bool} {X Y : List (Int × Int)}, envB vs fs rs l X Y = true → leqD vs fs rs l X Y l X Y = true := by
    intro l X Y h
    unfold leqD
    rw [h]
    cases l
    · rfl
    · have := decide_eq_true (leqs_self (env_live h).2.2)
      unfold leqE; rw [this]; rfl
  cases li
  · refine ⟨by simpa [wsV] using h2, ?_, by simpa [wsV] using hs h2⟩
    unfold leqD
    rw [h1]
    simp only [wsV, Bool.false_or]
    rw [h2]; rfl
  · cases lj
    · refine ⟨by simpa [wsV] using h1, by simpa [wsV] using hs h1, ?_⟩
      unfold leqD
      rw [h2]
      simp only [wsV, Bool.or_false]
      rw [h1]; rfl
    · obtain ⟨a1, a2, a3⟩ := env_live h1
      obtain ⟨b1, b2, b3⟩ := env_live h2
      have hin := inl_app hi.1 hi.2
      have h0 : envB vs fs rs true (List.zipWith (wd st) xs xs2) (List.zipWith (wd st) ys ys2) = true := by
        refine env_of (env_decl h1) (.inr ⟨rfl, by simp; omega, by simp; omega, ?_⟩)
        rw [zip_app (wd st) (by omega)]
        exact wd_ivs hn a3 b3 hin
      refine ⟨h0, ?_, ?_⟩
      · unfold leqD
        rw [h1]
        simp only [wsV, Bool.or_true]
        rw [h0, zip_app (wd st) (by omega)]
        have := decide_eq_true (wd_above1 hn a3 b3 hin)
        unfold leqE; rw [this]; rfl
      · unfold leqD
        rw [h2]
        simp only [wsV, Bool.or_true]
        rw [h0, zip_app (wd st) (by omega)]
        have := decide_eq_true (wd_above2 hn a3 b3 hin)
        unfold leqE; rw [this]; rfl
/-- Widened by what is below it stays. -/
theorem wdn_stay (hn : s2.length ≤ 100) (h : leqD vs fs rs lj xs2 ys2 li xs ys = true) : wdnL s2 vs fs rs li xs ys lj xs2 ys2 = li ∧ wdnV s2 vs fs rs li xs ys lj xs2 ys2 = (xs, ys) := by
  unfold leqD at h
  simp only [Bool.and_eq_true] at h
  obtain ⟨h2, h1, h3⟩ := h
  rw [(wdn_ws hn h1 h2).1, (wdn_ws hn h1 h2).2]
  cases lj
  · obtain ⟨rfl, rfl⟩ := env_dead h2
    cases li
    · obtain ⟨rfl, rfl⟩ := env_dead h1
      exact ⟨rfl, rfl⟩
    · exact ⟨rfl, rfl⟩
  · unfold leqE at h3
    simp only [Bool.not_true, Bool.false_or, Bool.and_eq_true, decide_eq_true_eq] at h3
    obtain ⟨rfl, h3⟩ := h3
    obtain ⟨a1, a2, a3⟩ := env_live h1
    obtain ⟨b1, b2, b3⟩ := env_live h2
    refine ⟨rfl, ?_⟩
    have hx : leqsP xs2 xs := fun k l1 l2 => by
      have q := h3 k (by simp; omega) (by simp; omega)
      rw [List.getElem_append_left l1, List.getElem_append_left l2] at q
      exact q
    have hy : leqsP ys2 ys := fun k l1 l2 => by
      have q := h3 (xs2.length + k) (by simp; omega) (by simp; omega)
      rw [List.getElem_append_right (by omega), List.getElem_append_right (by omega)] at q
      have e1 : xs2.length + k - xs.length = k := by omega
      simpa [e1] using q
    simp only [wsV]
    rw [wd_zip_stay (by omega) hn hx, wd_zip_stay (by omega) hn hy]
end
end Go.Proofs.YtoipaejbkcdioaaDoor
