/- Comparisons, and what they leave of an interval. -/
import Derived.Test.YtlgjbfkhajphdaaDoorIvD
namespace Go.Proofs.YtlgjbfkhajphdaaDoor
open Go.RowKit Go.Iv
set_option linter.unusedSimpArgs false
set_option linter.unusedVariables false

def cmpB (op : Int) : Bool := decide (13 ≤ op ∧ op ≤ 18)
/-- How strongly an operation binds. -/
def bindN (op : Int) : Int := if op = 21 then 0 else if op = 20 then 1 else if op = 19 then 2 else if 13 ≤ op ∧ op ≤ 18 then 3 else if 8 ≤ op ∧ op ≤ 9 then 4 else if 10 ≤ op ∧ op ≤ 12 then 5 else if op = 7 then 6 else 7
theorem cmp_bind (op : Int) : (bindN op == 3) = cmpB op := by
  unfold bindN cmpB
  by_cases h : 13 ≤ op ∧ op ≤ 18
  · rw [if_neg (by omega), if_neg (by omega), if_neg (by omega), if_pos h]; simp [h]
  · rw [decide_eq_false h]; repeat' split
    all_goals first | rfl | omega
theorem bindOf_c (op : Int) (w : World) : Calls Tryd.prog 30 #[.int .i64 op] w fun e w' => e = .returned (.int .i64 (bindN op)) ∧ Below w.heap.size w w' := by
  go_enter Tryd.func30, Tryd.ntmps30
  go_wp2
  all_goals go_ret
  all_goals refine ⟨ret_int ?_, Below.refl _ _⟩
  all_goals (simp only [beq_iff_eq, beq_eq_false_iff_ne, ne_eq] at *; unfold bindN; repeat' split)
  all_goals first | rfl | omega
theorem isCompare_c (op : Int) (w : World) : Calls Tryd.prog 18 #[.int .i64 op] w fun e w' => e = .returned (.bool (cmpB op)) ∧ Below w.heap.size w w' := by
  have q := cmp_bind op
  go_enter Tryd.func18, Tryd.ntmps18
  go_wp2_with fail
  refine (bindOf_c _ _).mono ?_
  rintro e w1 ⟨rfl, hb1⟩
  go_wp2
  go_ret
  exact ⟨rfl, hb1⟩
/-- What a comparison leaves of an interval, ends first. -/
def refLo (op al ah bl bh : Int) : Int := if op = 17 then mx al (bl + 1) else if op = 18 then mx al bl else if op = 15 then mx al bl else if op = 16 then (if bl = bh ∧ al = bl then al + 1 else al) else al
def refHi (op al ah bl bh : Int) : Int := if op = 13 then mn ah (bh - 1) else if op = 14 then mn ah bh else if op = 15 then mn ah bh else if op = 16 then (if bl = bh ∧ ah = bl then ah - 1 else ah) else ah
def refB (op al ah bl bh : Int) : Bool := decide (13 ≤ op ∧ op ≤ 18 ∧ al ≤ ah ∧ bl ≤ bh ∧ refLo op al ah bl bh ≤ refHi op al ah bl bh)
def refL (op al ah bl bh : Int) : Int := if refB op al ah bl bh = true then refLo op al ah bl bh else 0
def refH (op al ah bl bh : Int) : Int := if refB op al ah bl bh = true then refHi op al ah bl bh else 0
theorem ref_no {op al ah bl bh : Int} (h : ¬ (13 ≤ op ∧ op ≤ 18 ∧ al ≤ ah ∧ bl ≤ bh ∧ refLo op al ah bl bh ≤ refHi op al ah bl bh)) : refL op al ah bl bh = 0 ∧ refH op al ah bl bh = 0 ∧ refB op al ah bl bh = false := by
  have e : refB op al ah bl bh = false := decide_eq_false h
  unfold refL refH
  rw [e]
  exact ⟨rfl, rfl, rfl⟩
theorem ref_yes {op al ah bl bh x y : Int} (h : 13 ≤ op ∧ op ≤ 18 ∧ al ≤ ah ∧ bl ≤ bh) (hx : refLo op al ah bl bh = x) (hy : refHi op al ah bl bh = y) (hxy : x ≤ y) : refL op al ah bl bh = x ∧ refH op al ah bl bh = y ∧ refB op al ah bl bh = true := by
  have e : refB op al ah bl bh = true := decide_eq_true (by rw [hx, hy]; exact ⟨h.1, h.2.1, h.2.2.1, h.2.2.2, hxy⟩)
  unfold refL refH
  rw [e, hx, hy]
  exact ⟨rfl, rfl, rfl⟩
theorem ref_non {op al ah bl bh x y : Int} (hx : refLo op al ah bl bh = x) (hy : refHi op al ah bl bh = y) (hxy : ¬ x ≤ y) : refL op al ah bl bh = 0 ∧ refH op al ah bl bh = 0 ∧ refB op al ah bl bh = false :=
  ref_no (by rw [hx, hy]; exact fun h => hxy h.2.2.2.2)
theorem lessThan_t (al ah n : Int) (ha : In al) (hh : In ah) (hn : In n) (h : al < n) (w : World) : Calls Tryd.prog 32 #[.agg #[.int .i64 al, .int .i64 ah], .int .i64 n] w fun e w' => e = .returned (.tuple #[.agg #[.int .i64 al, .int .i64 (mn ah (n - 1))], .bool true]) ∧ Below w.heap.size w w' := by
  have q := hmn ah (n - 1)
  have e1 : wrap64 (n - 1) = n - 1 := w64 _ (by unfold In at *; omega)
  go_enter Tryd.func32, Tryd.ntmps32
  go_wp2
  exact bodyPost_ret (v := .tuple #[.agg #[.int .i64 al, .int .i64 (mn ah (n - 1))], .bool true]) (by simp [results, Tryd.results32, go_sem]) rfl ⟨rfl, ((Below.refl _ _).alloc (Nat.le_refl _) _).alloc (by simp) _⟩
theorem lessThan_f (al ah n : Int) (h : n ≤ al) (w : World) : Calls Tryd.prog 32 #[.agg #[.int .i64 al, .int .i64 ah], .int .i64 n] w fun e w' => e = .returned (.tuple #[.agg #[.int .i64 0, .int .i64 0], .bool false]) ∧ Below w.heap.size w w' := by
  go_enter Tryd.func32, Tryd.ntmps32
  go_wp2
  exact bodyPost_ret (v := .tuple #[.agg #[.int .i64 0, .int .i64 0], .bool false]) (by simp [results, Tryd.results32, go_sem]) rfl ⟨rfl, ((Below.refl _ _).alloc (Nat.le_refl _) _).alloc (by simp) _⟩
theorem moreThan_t (al ah n : Int) (ha : In al) (hh : In ah) (hn : In n) (h : n < ah) (w : World) : Calls Tryd.prog 34 #[.agg #[.int .i64 al, .int .i64 ah], .int .i64 n] w fun e w' => e = .returned (.tuple #[.agg #[.int .i64 (mx al (n + 1)), .int .i64 ah], .bool true]) ∧ Below w.heap.size w w' := by
  have q := hmx al (n + 1)
  have e1 : wrap64 (n + 1) = n + 1 := w64 _ (by unfold In at *; omega)
  go_enter Tryd.func34, Tryd.ntmps34
  go_wp2
  exact bodyPost_ret (v := .tuple #[.agg #[.int .i64 (mx al (n + 1)), .int .i64 ah], .bool true]) (by simp [results, Tryd.results34, go_sem]) rfl ⟨rfl, ((Below.refl _ _).alloc (Nat.le_refl _) _).alloc (by simp) _⟩
theorem moreThan_f (al ah n : Int) (h : ah ≤ n) (w : World) : Calls Tryd.prog 34 #[.agg #[.int .i64 al, .int .i64 ah], .int .i64 n] w fun e w' => e = .returned (.tuple #[.agg #[.int .i64 0, .int .i64 0], .bool false]) ∧ Below w.heap.size w w' := by
  go_enter Tryd.func34, Tryd.ntmps34
  go_wp2
  exact bodyPost_ret (v := .tuple #[.agg #[.int .i64 0, .int .i64 0], .bool false]) (by simp [results, Tryd.results34, go_sem]) rfl ⟨rfl, ((Below.refl _ _).alloc (Nat.le_refl _) _).alloc (by simp) _⟩
end Go.Proofs.YtlgjbfkhajphdaaDoor
