/- Texts that go together: MeeC, MeeD, MeeE. -/
import Derived.Test.YtpdnnpnclgcpoaaDoorJpZ
import Derived.Test.YtpdnnpnclgcpoaaDoorLaZ
/- The specification's meet of two intervals. -/
namespace Go.Proofs.YtpdnnpnclgcpoaaDoor
open Go.RowKit
set_option linter.unusedSimpArgs false
set_option linter.unusedVariables false

end Go.Proofs.YtpdnnpnclgcpoaaDoor

/- The meet of bounds: what it is. -/
namespace Go.Proofs.YtpdnnpnclgcpoaaDoor
open Go.RowKit
set_option linter.unusedSimpArgs false
set_option linter.unusedVariables false

def mt (p q : Int × Int) : Int × Int := (meetL p.1 p.2 q.1 q.2, meetH p.1 p.2 q.1 q.2)
/-- All meets are some. -/
def metP (l m : List (Int × Int)) : Prop := ∀ k, (h : k < l.length) → (h2 : k < m.length) → meetB l[k].1 l[k].2 m[k].1 m[k].2 = true
instance (l m : List (Int × Int)) : Decidable (metP l m) := by unfold metP; infer_instance
def metL (vs fs : List ByteArray) (rs : List (ByteArray × Int)) (li : Bool) (xs ys : List (Int × Int)) (lj : Bool) (xs2 ys2 : List (Int × Int)) : Bool := envB vs fs rs li xs ys && (envB vs fs rs lj xs2 ys2 && (li && (lj && decide (metP (xs ++ ys) (xs2 ++ ys2)))))
def metV (vs fs : List ByteArray) (rs : List (ByteArray × Int)) (li : Bool) (xs ys : List (Int × Int)) (lj : Bool) (xs2 ys2 : List (Int × Int)) : List (Int × Int) × List (Int × Int) :=
  if metL vs fs rs li xs ys lj xs2 ys2 = true then (List.zipWith mt xs xs2, List.zipWith mt ys ys2) else ([], [])
theorem metV_no {vs fs : List ByteArray} {rs : List (ByteArray × Int)} {li lj : Bool} {xs ys xs2 ys2 : List (Int × Int)} (h : metL vs fs rs li xs ys lj xs2 ys2 = false) : metV vs fs rs li xs ys lj xs2 ys2 = ([], []) := by
  unfold metV; rw [h]; rfl
theorem metV_yes {vs fs : List ByteArray} {rs : List (ByteArray × Int)} {li lj : Bool} {xs ys xs2 ys2 : List (Int × Int)} (h : metL vs fs rs li xs ys lj xs2 ys2 = true) : metV vs fs rs li xs ys lj xs2 ys2 = (List.zipWith mt xs xs2, List.zipWith mt ys ys2) := if_pos h
theorem metL_both {vs fs : List ByteArray} {rs : List (ByteArray × Int)} {xs ys xs2 ys2 : List (Int × Int)} (h : envB vs fs rs true xs ys = true) (h2 : envB vs fs rs true xs2 ys2 = true) : metL vs fs rs true xs ys true xs2 ys2 = decide (metP (xs ++ ys) (xs2 ++ ys2)) := by
  unfold metL; rw [h, h2]; simp
theorem metV_len (vs fs : List ByteArray) (rs : List (ByteArray × Int)) (li : Bool) (xs ys : List (Int × Int)) (lj : Bool) (xs2 ys2 : List (Int × Int)) (M : Nat) (h : xs.length ≤ M ∧ ys.length ≤ M) : (metV vs fs rs li xs ys lj xs2 ys2).1.length ≤ M ∧ (metV vs fs rs li xs ys lj xs2 ys2).2.length ≤ M := by
  unfold metV
  split
  · simp only [List.length_zipWith]; omega
  · simp
theorem mt_snoc (zs zt : List (Int × Int)) (k : Nat) (h : k < zs.length) (h2 : k < zt.length) : cellsV ((List.zipWith mt zs zt).take k) ++ [.int .i64 (meetL zs[k].1 zs[k].2 zt[k].1 zt[k].2), .int .i64 (meetH zs[k].1 zs[k].2 zt[k].1 zt[k].2)] = cellsV ((List.zipWith mt zs zt).take (k + 1)) := by
  rw [List.take_succ_eq_append_getElem (by simp; omega), cellsV_app, List.getElem_zipWith]
  rfl
/-- The first k are met. -/
def updM (Z T : List (Int × Int)) (k : Nat) : List (Int × Int) := (List.zipWith mt Z T).take k ++ Z.drop k
theorem updM_len (Z T : List (Int × Int)) (k : Nat) (h : Z.length = T.length) (hk : k ≤ Z.length) : (updM Z T k).length = Z.length := by
  unfold updM
  simp
  omega
theorem updM_zero (Z T : List (Int × Int)) : updM Z T 0 = Z := by simp [updM]
theorem updM_all (Z T : List (Int × Int)) (h : Z.length = T.length) : updM Z T Z.length = List.zipWith mt Z T := by
  unfold updM
  rw [List.drop_length, List.append_nil, List.take_of_length_le (by simp; omega)]
theorem updM_get (Z T : List (Int × Int)) (k i : Nat) (h : Z.length = T.length) (hk : k ≤ Z.length) (hi : i < Z.length) : (updM Z T k)[i]? = some (if i < k then mt Z[i] (T[i]'(by omega)) else Z[i]) := by
  have hz : (List.zipWith mt Z T).length = Z.length := by simp; omega
  have ht : ((List.zipWith mt Z T).take k).length = k := by rw [List.length_take, hz]; omega
  unfold updM
  by_cases c : i < k
  · rw [List.getElem?_append_left (by rw [ht]; exact c), List.getElem?_take_of_lt c, if_pos c, List.getElem?_eq_getElem (by rw [hz]; exact hi), List.getElem_zipWith]
  · rw [List.getElem?_append_right (by rw [ht]; omega), ht, List.getElem?_drop, if_neg c, show k + (i - k) = i by omega, List.getElem?_eq_getElem hi]
theorem updM_at (Z T : List (Int × Int)) (k : Nat) (h : Z.length = T.length) (hk : k < Z.length) : (updM Z T k)[k]'(by rw [updM_len Z T k h (by omega)]; exact hk) = Z[k] := by
  have q := updM_get Z T k k h (by omega) hk
  rw [List.getElem?_eq_getElem (by rw [updM_len Z T k h (by omega)]; exact hk), if_neg (by omega)] at q
  exact Option.some.inj q
theorem updM_set (Z T : List (Int × Int)) (k : Nat) (h : Z.length = T.length) (hk : k < Z.length) : (updM Z T k).set k (mt Z[k] (T[k]'(by omega))) = updM Z T (k + 1) := by
  have hl : (updM Z T k).length = Z.length := updM_len Z T k h (by omega)
  have hl2 : (updM Z T (k + 1)).length = Z.length := updM_len Z T (k + 1) h (by omega)
  apply List.ext_getElem?
  intro i
  by_cases hi : i < Z.length
  · rw [List.getElem?_set, updM_get Z T (k + 1) i h (by omega) hi, updM_get Z T k i h (by omega) hi]
    by_cases e : k = i
    · subst e
      rw [if_pos rfl, if_pos (by rw [hl]; exact hk), if_pos (by omega)]
    · rw [if_neg e]
      by_cases c : i < k
      · rw [if_pos c, if_pos (by omega)]
      · rw [if_neg c, if_neg (by omega)]
  · rw [List.getElem?_eq_none (by rw [List.length_set, hl]; omega), List.getElem?_eq_none (by rw [hl2]; omega)]
end Go.Proofs.YtpdnnpnclgcpoaaDoor

/- The meet of bounds: the specification's function. -/
namespace Go.Proofs.YtpdnnpnclgcpoaaDoor
open Go.RowKit
set_option linter.unusedSimpArgs false
set_option linter.unusedVariables false

/-- An interval in a block of the call's own. -/
def CI (u : World) (b : Nat) (x y : Int) : Prop := u.cell? ⟨b, 0, none⟩ = some (.int .i64 x) ∧ u.cell? ⟨b, 1, none⟩ = some (.int .i64 y) ∧ (∀ o, u.frozen? ⟨b, o, none⟩ = false) ∧ b < u.heap.size
theorem CI.new (w : World) (x y : Int) (t : TypeId) : CI (w.alloc (Obj.cells #[.int .i64 x, .int .i64 y] t)) w.heap.size x y :=
  ⟨by simp [go_sem], by simp [go_sem], fun o => by simp [go_sem], by simp⟩
theorem CI.call {u v : World} {b : Nat} {x y : Int} (h : CI u b x y) (hb : Below u.heap.size u v) : CI v b x y :=
  ⟨(hb.cell (by exact h.2.2.2)).trans h.1, (hb.cell (by exact h.2.2.2)).trans h.2.1, fun o => (hb.frozen (by exact h.2.2.2)).trans (h.2.2.1 o), Nat.lt_of_lt_of_le h.2.2.2 hb.size⟩
theorem CI.stored {u : World} {b : Nat} {x y : Int} (h : CI u b x y) (p q : Int) : CI ((u.setCell ⟨b, 0, none⟩ (.int .i64 p)).setCell ⟨b, 1, none⟩ (.int .i64 q)) b p q :=
  ⟨by simp [go_sem, h.1, h.2.1], by simp [go_sem, h.1, h.2.1], fun o => by simp [World.frozen?_setCell, h.2.2.1 o], by simpa [World.setCell] using h.2.2.2⟩
end Go.Proofs.YtpdnnpnclgcpoaaDoor

