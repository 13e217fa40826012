/- Plain arithmetic of corners and what lies between them. -/
import Derived.Test.YtfnedaidljppnaaMathA
namespace Go.Iv

/-- What an operation on intervals tells: the interval, whether anything may come out, the alarms. -/
structure V where
  lo : Int
  hi : Int
  live : Bool
  al : Int

def zeroV : V := ⟨0, 0, false, 0⟩

/-- Of the least and the greatest exact number. -/
def span (m M : Int) : V :=
  if M < -9223372036854775808 ∨ 9223372036854775807 < m then ⟨0, 0, false, 4⟩
  else ⟨max m (-9223372036854775808), min M 9223372036854775807, true, if m < -9223372036854775808 ∨ 9223372036854775807 < M then 4 else 0⟩

def minL : Int → List Int → Int
  | m, [] => m
  | m, x :: l => minL (min m x) l
def maxL : Int → List Int → Int
  | m, [] => m
  | m, x :: l => maxL (max m x) l

def spanL : List Int → V
  | [] => zeroV
  | x :: l => span (minL x l) (maxL x l)

theorem minL_snoc (m : Int) (l : List Int) (x : Int) : minL m (l ++ [x]) = min (minL m l) x := by
  induction l generalizing m with
  | nil => rfl
  | cons y l ih => exact ih _
theorem maxL_snoc (m : Int) (l : List Int) (x : Int) : maxL m (l ++ [x]) = max (maxL m l) x := by
  induction l generalizing m with
  | nil => rfl
  | cons y l ih => exact ih _
theorem minL_le (m : Int) (l : List Int) : minL m l ≤ m := by
  induction l generalizing m with
  | nil => exact Int.le_refl _
  | cons y l ih => exact Int.le_trans (ih _) (by omega)
theorem maxL_ge (m : Int) (l : List Int) : m ≤ maxL m l := by
  induction l generalizing m with
  | nil => exact Int.le_refl _
  | cons y l ih => exact Int.le_trans (by omega) (ih (max m y))
theorem min_le_max (m : Int) (l : List Int) : minL m l ≤ maxL m l := Int.le_trans (minL_le m l) (maxL_ge m l)

/-- Which corner is less, as the program asks it. -/
def lessB (x y : Int) : Bool := if clO x ≠ clO y then decide (clO x < clO y) else decide (clN x < clN y)

theorem less_yes (x y : Int) (h : lessB x y = true) : x < y := by
  unfold lessB at h
  rcases clO_cases x with ⟨a, b, c⟩ | ⟨a, b, c⟩ | ⟨a, b, c⟩ <;> rcases clO_cases y with ⟨a', b', c'⟩ | ⟨a', b', c'⟩ | ⟨a', b', c'⟩ <;> simp [a, c, a', c'] at h <;> ((try unfold In at *); omega)
theorem less_no (x y : Int) (h : lessB x y = false) (hlt : x < y) : clN x = clN y ∧ clO x = clO y := by
  unfold lessB at h
  rcases clO_cases x with ⟨a, b, c⟩ | ⟨a, b, c⟩ | ⟨a, b, c⟩ <;> rcases clO_cases y with ⟨a', b', c'⟩ | ⟨a', b', c'⟩ | ⟨a', b', c'⟩ <;> simp [a, c, a', c'] at h ⊢ <;> ((try unfold In at *); omega)

theorem min_yes (m c : Int) (h : lessB c m = true) : min m c = c := by have := less_yes c m h; omega
theorem min_no (m c : Int) (h : lessB c m = false) : clN (min m c) = clN m ∧ clO (min m c) = clO m := by
  by_cases hlt : c < m
  · have := less_no c m h hlt
    rw [show min m c = c by omega]; exact this
  · rw [show min m c = m by omega]; exact ⟨rfl, rfl⟩
theorem max_yes (g c : Int) (h : lessB g c = true) : max g c = c := by have := less_yes g c h; omega
theorem max_no (g c : Int) (h : lessB g c = false) : clN (max g c) = clN g ∧ clO (max g c) = clO g := by
  by_cases hlt : g < c
  · have := less_no g c h hlt
    rw [show max g c = c by omega]; exact ⟨this.1.symm, this.2.symm⟩
  · rw [show max g c = g by omega]; exact ⟨rfl, rfl⟩

/-- The cells of a row of corners. -/
def cellsC (l : List Int) : List Value := l.flatMap fun x => [.int .i64 (clN x), .int .i64 (clO x)]
theorem cellsC_len (l : List Int) : (cellsC l).length = 2 * l.length := by
  induction l with
  | nil => rfl
  | cons x l ih => simp [cellsC] at ih ⊢; omega
theorem cellsC_app (l k : List Int) : cellsC (l ++ k) = cellsC l ++ cellsC k := by simp [cellsC]
theorem cellsC_at (l : List Int) (i : Nat) (h : i < l.length) : (cellsC l)[2 * i]? = some (.int .i64 (clN l[i])) ∧ (cellsC l)[2 * i + 1]? = some (.int .i64 (clO l[i])) := by
  induction l generalizing i with
  | nil => simp at h
  | cons x l ih =>
    cases i with
    | zero => exact ⟨rfl, rfl⟩
    | succ i =>
      have := ih i (by simpa using h)
      refine ⟨?_, ?_⟩
      · show ([.int .i64 (clN x), .int .i64 (clO x)] ++ cellsC l)[2 * (i + 1)]? = _
        rw [List.getElem?_append_right (by simp; omega)]
        simpa [Nat.mul_add] using this.1
      · show ([.int .i64 (clN x), .int .i64 (clO x)] ++ cellsC l)[2 * (i + 1) + 1]? = _
        rw [List.getElem?_append_right (by simp; omega)]
        have e : 2 * (i + 1) + 1 - [Value.int .i64 (clN x), Value.int .i64 (clO x)].length = 2 * i + 1 := by simp; omega
        rw [e]
        simpa using this.2

end Go.Iv
