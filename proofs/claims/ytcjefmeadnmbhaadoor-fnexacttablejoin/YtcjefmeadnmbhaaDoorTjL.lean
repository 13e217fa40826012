/- Sizes: of a table's marks, and of joined tables. -/
import Derived.Test.YtcjefmeadnmbhaaDoorTjX
import Derived.Test.YtcjefmeadnmbhaaDoorTjY
namespace Go.Proofs.YtcjefmeadnmbhaaDoor
open Go.RowKit
set_option linter.unusedSimpArgs false
set_option linter.unusedVariables false

theorem szE_sum (m n : Nat) (l : Int) (h : 0 ≤ szE m n l) (h0 : 0 ≤ l) : szE m n l = l - m - n := by
  unfold szE sz1 at *
  split at h
  · omega
  · split at h
    · omega
    · rename_i a b
      rw [if_neg a, if_neg b]
      exact if_neg a
/-- How many intervals lie in a table's rows. -/
def totE (es : List ER) : Nat := (es.map fun e => e.2.1.length + e.2.2.length).sum
theorem szEL_sum : ∀ (es : List ER) (l : Int), 0 ≤ l → 0 ≤ szEL es l → (totE es : Int) ≤ l
  | [], l, h, _ => by simpa [totE] using h
  | e :: es, l, h, k => by
    by_cases g : szE e.2.1.length e.2.2.length l < 0
    · have E : szEL (e :: es) l = -1 := if_pos g
      omega
    · have E : szEL (e :: es) l = szEL es (szE e.2.1.length e.2.2.length l) := if_neg g
      rw [E] at k
      have r := szEL_sum es _ (by omega) k
      have q := szE_sum e.2.1.length e.2.2.length l (by omega) h
      have t : totE (e :: es) = e.2.1.length + e.2.2.length + totE es := by simp [totE]
      rw [t]
      omega
theorem szES_sum (es : List ER) (l : Int) (h : 0 ≤ l) (k : 0 ≤ szES es l) : (es.length : Int) + totE es ≤ l := by
  unfold szES at k
  split at k
  · omega
  · have := szEL_sum es _ (by omega) k
    omega
/-- So many marks lie in a table that is placed by ds. -/
theorem kN_tot : ∀ (ds : List MD) (es : List ER), ds.length = es.length → (∀ i, (h : i < ds.length) → (h2 : i < es.length) → ds[i].na = es[i].2.1.length ∧ ds[i].nb = es[i].2.2.length) → kN ds ds.length = es.length + 2 * totE es
  | [], [], _, _ => by simp [kN, totE]
  | [], _ :: _, h, _ => by simp at h
  | _ :: _, [], h, _ => by simp at h
  | d :: ds, e :: es, h, k => by
    have r := kN_tot ds es (by simpa using h) (fun i a b => by
      have := k (i + 1) (by simpa using a) (by simpa using b)
      rw [List.getElem_cons_succ, List.getElem_cons_succ] at this
      exact this)
    obtain ⟨k1, k2⟩ := k 0 (by simp) (by simp)
    rw [List.getElem_cons_zero, List.getElem_cons_zero] at k1 k2
    have t : totE (e :: es) = e.2.1.length + e.2.2.length + totE es := by simp [totE]
    have s : kN (d :: ds) (d :: ds).length = 1 + 2 * d.na + 2 * d.nb + kN ds ds.length := by simp [kN]
    rw [s, t, r, k1, k2, List.length_cons]
    omega
theorem jsV_len {li lj : Bool} {xs ys xs2 ys2 : List (Int × Int)} {M : Nat} (h : xs.length ≤ M ∧ ys.length ≤ M ∧ xs2.length ≤ M ∧ ys2.length ≤ M) : (jsV li lj xs ys xs2 ys2).1.length ≤ M ∧ (jsV li lj xs ys xs2 ys2).2.length ≤ M := by
  cases li <;> cases lj <;> simp only [jsV, List.length_zipWith] <;> omega
/-- The join of tables is small. -/
theorem tjV_small (vs fs : List ByteArray) (rs : List (ByteArray × Int)) (es1 es2 : List ER) : (tjV vs fs rs es1 es2).length ≤ 8 ∧ ∀ i, (h : i < (tjV vs fs rs es1 es2).length) → (tjV vs fs rs es1 es2)[i].2.1.length ≤ 5 ∧ (tjV vs fs rs es1 es2)[i].2.2.length ≤ 5 := by
  by_cases c : tabB vs fs rs es1 = true ∧ tabB vs fs rs es2 = true
  · obtain ⟨t1, t2⟩ := c
    obtain ⟨e, el⟩ := tjV_yes t1 t2
    have l8 : es1.length ≤ 8 := by
      have e := tab_len t1
      have hd : declB vs fs rs = true := by unfold tabB at t1; rw [Bool.and_eq_true] at t1; exact t1.1
      have l := (declB_len hd).2.1
      rw [e]
      have : 2 ^ fs.length ≤ 2 ^ 3 := Nat.pow_le_pow_right (by decide) l
      omega
    refine ⟨by rw [el]; exact l8, ?_⟩
    rw [e]
    intro i h
    have h1 : i < es1.length := by rw [List.length_zipWith] at h; omega
    have h2 : i < es2.length := by rw [List.length_zipWith] at h; omega
    rw [List.getElem_zipWith]
    have s1 := env_small (tab_env t1 i h1)
    have s2 := env_small (tab_env t2 i h2)
    exact jsV_len ⟨s1.1, by omega, s2.1, by omega⟩
  · have e : tjV vs fs rs es1 es2 = [] := if_neg c
    rw [e]
    exact ⟨by simp, fun i h => absurd h (Nat.not_lt_zero i)⟩
end Go.Proofs.YtcjefmeadnmbhaaDoor
