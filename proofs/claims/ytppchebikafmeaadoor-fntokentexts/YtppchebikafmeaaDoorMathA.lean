/- Plain arithmetic of numbers that may not fit into int64: no Go in sight but for the kit's bit operations. -/
import Derived.Laws.Entries
import Derived.Laws.BitsLemmas
import Derived.Laws.Bits64
import Derived.RowKit
namespace Go.Iv
open Go.RowKit (wrap64)

/-- A number that fits into int64. -/
def In (n : Int) : Prop := -9223372036854775808 ≤ n ∧ n ≤ 9223372036854775807

/-- What does not fit: the number and 0, else 0 and the side. -/
def clN (x : Int) : Int := if x < -9223372036854775808 then 0 else if 9223372036854775807 < x then 0 else x
def clO (x : Int) : Int := if x < -9223372036854775808 then -1 else if 9223372036854775807 < x then 1 else 0

theorem clN_in (x : Int) : In (clN x) := by unfold clN In; split <;> (try split) <;> omega
theorem clO_cases (x : Int) : clO x = -1 ∧ x < -9223372036854775808 ∧ clN x = 0 ∨ clO x = 1 ∧ 9223372036854775807 < x ∧ clN x = 0 ∨ clO x = 0 ∧ In x ∧ clN x = x := by
  unfold clN clO In; split
  · left; omega
  · split
    · right; left; omega
    · right; right; omega
theorem cl_in (x : Int) (h : In x) : clN x = x ∧ clO x = 0 := by unfold In at h; unfold clN clO; constructor <;> (rw [if_neg (by omega), if_neg (by omega)])
theorem cl_low (x : Int) (h : x < -9223372036854775808) : clN x = 0 ∧ clO x = -1 := by unfold clN clO; simp [h]
theorem cl_high (x : Int) (h : 9223372036854775807 < x) : clN x = 0 ∧ clO x = 1 := by
  unfold clN clO; constructor <;> (rw [if_neg (by omega), if_pos h])

theorem w64 (n : Int) (h : In n) : wrap64 n = n := by unfold wrap64; unfold In at h; omega

theorem toNat_msb (v : BitVec 64) : IntKind.i64.wrap (v.toNat : Int) < 0 ↔ v.msb = true := by
  rw [IntKind.wrap_i64, BitVec.msb_eq_decide]
  have := v.isLt
  simp
  omega

theorem ofInt_msb (x : Int) (h : In x) : (BitVec.ofInt 64 x).msb = decide (x < 0) := by
  unfold In at h
  rw [BitVec.msb_eq_decide, BitVec.toNat_ofInt]
  rw [decide_eq_decide]
  have : ((2 ^ 64 : Nat) : Int) = 18446744073709551616 := by decide
  rw [this]
  have e : (2 : Nat) ^ (64 - 1) = 9223372036854775808 := by decide
  rw [e]
  omega

theorem xor_in (x y : Int) : In (bits .xor .i64 x y) := by
  show In (IntKind.i64.wrap _)
  rw [IntKind.wrap_i64]; unfold In; omega
theorem and_in (x y : Int) : In (bits .and .i64 x y) := by
  show In (IntKind.i64.wrap _)
  rw [IntKind.wrap_i64]; unfold In; omega

theorem xor_neg (x y : Int) (hx : In x) (hy : In y) : bits .xor .i64 x y < 0 ↔ ¬ (x < 0 ↔ y < 0) := by
  show IntKind.i64.wrap ((BitVec.ofInt 64 x ^^^ BitVec.ofInt 64 y).toNat : Int) < 0 ↔ _
  rw [toNat_msb, BitVec.msb_xor, ofInt_msb x hx, ofInt_msb y hy]
  by_cases h1 : x < 0 <;> by_cases h2 : y < 0 <;> simp [h1, h2]

theorem and_neg (x y : Int) (hx : In x) (hy : In y) : bits .and .i64 x y < 0 ↔ x < 0 ∧ y < 0 := by
  show IntKind.i64.wrap ((BitVec.ofInt 64 x &&& BitVec.ofInt 64 y).toNat : Int) < 0 ↔ _
  rw [toNat_msb, BitVec.msb_and, ofInt_msb x hx, ofInt_msb y hy]
  by_cases h1 : x < 0 <;> by_cases h2 : y < 0 <;> simp [h1, h2]

def sideN (n : Int) : Int := if n < 0 then -1 else 1
def signN (n : Int) : Int := if n < 0 then 1 else 0

theorem signN_eq (n : Int) (h : In n) : IntKind.u64.wrap n / 9223372036854775808 = signN n := by
  unfold In at h; unfold signN; rw [IntKind.wrap_u64]; split <;> omega
theorem sideN_eq (n : Int) (h : In n) : bits .or .i64 (n / 9223372036854775808) 1 = sideN n := by
  unfold In at h; unfold sideN
  split
  · rw [show n / 9223372036854775808 = -1 by omega]; decide
  · rw [show n / 9223372036854775808 = 0 by omega]; decide

/-- The sum as the program makes it: by uint64. -/
def addW (a b : Int) : Int := wrap64 (IntKind.u64.wrap (IntKind.u64.wrap a + IntKind.u64.wrap b))
def subW (a b : Int) : Int := wrap64 (IntKind.u64.wrap (IntKind.u64.wrap a - IntKind.u64.wrap b))
theorem addW_eq (a b : Int) : addW a b = wrap64 (a + b) := by unfold addW wrap64; simp only [IntKind.wrap_u64]; omega
theorem subW_eq (a b : Int) : subW a b = wrap64 (a - b) := by unfold subW wrap64; simp only [IntKind.wrap_u64]; omega
theorem addW_in (a b : Int) : In (addW a b) := by rw [addW_eq]; unfold wrap64 In; omega
theorem subW_in (a b : Int) : In (subW a b) := by rw [subW_eq]; unfold wrap64 In; omega

theorem add_sign (a b : Int) (ha : In a) (hb : In b) : bits .and .i64 (bits .xor .i64 a (addW a b)) (bits .xor .i64 b (addW a b)) < 0 ↔ ¬ In (a + b) := by
  rw [and_neg _ _ (xor_in _ _) (xor_in _ _), xor_neg _ _ ha (addW_in _ _), xor_neg _ _ hb (addW_in _ _), addW_eq]
  unfold In at *; unfold wrap64; omega
theorem sub_sign (a b : Int) (ha : In a) (hb : In b) : bits .and .i64 (bits .xor .i64 a b) (bits .xor .i64 a (subW a b)) < 0 ↔ ¬ In (a - b) := by
  rw [and_neg _ _ (xor_in _ _) (xor_in _ _), xor_neg _ _ ha hb, xor_neg _ _ ha (subW_in _ _), subW_eq]
  unfold In at *; unfold wrap64; omega

theorem add_over (a b : Int) (ha : In a) (hb : In b) (h : ¬ In (a + b)) : clN (a + b) = 0 ∧ clO (a + b) = sideN a := by
  unfold sideN
  split
  · exact cl_low _ (by unfold In at *; omega)
  · exact cl_high _ (by unfold In at *; omega)
theorem sub_over (a b : Int) (ha : In a) (hb : In b) (h : ¬ In (a - b)) : clN (a - b) = 0 ∧ clO (a - b) = sideN a := by
  unfold sideN
  split
  · exact cl_low _ (by unfold In at *; omega)
  · exact cl_high _ (by unfold In at *; omega)

/-- What NumQuo answers. -/
def quN (a b : Int) : Int := if b = 0 then 0 else clN (a.tdiv b)
def quO (a b : Int) : Int := if b = 0 then 0 else clO (a.tdiv b)
/-- What NumRem answers. -/
def reN (a b : Int) : Int := if b = 0 then 0 else a.tmod b

/-- How far from 0. -/
def dist (n : Int) : Int := (n.natAbs : Int)
theorem dist_in (n : Int) (h : In n) : 0 ≤ dist n ∧ dist n ≤ 9223372036854775808 := by unfold In at h; unfold dist; omega
theorem dist_zero (n : Int) : dist n = 0 ↔ n = 0 := by unfold dist; omega
theorem abs_in (n : Int) (h : In n) : 0 ≤ (n.natAbs : Int) ∧ (n.natAbs : Int) ≤ 9223372036854775808 := by unfold In at h; omega

theorem tmod_in (a b : Int) (ha : In a) : In (a.tmod b) := by
  unfold In at *
  have h1 := Int.natAbs_tmod a b
  have h2 : a.natAbs % b.natAbs ≤ a.natAbs := Nat.mod_le _ _
  have h3 : (a.tmod b).natAbs ≤ a.natAbs := by omega
  by_cases h : 0 ≤ a
  · have := Int.tmod_nonneg b h; omega
  · have : 0 ≤ (-a).tmod b := Int.tmod_nonneg b (by omega)
    rw [Int.neg_tmod] at this
    omega
theorem tdiv_abs (a b : Int) : (a.tdiv b).natAbs = a.natAbs / b.natAbs := Int.natAbs_tdiv a b

/-- The sign of a quotient, by the signs of both. -/
theorem tdiv_sign (a b : Int) (_hb : b ≠ 0) : a.tdiv b = (if (a < 0 ↔ b < 0) then ((a.natAbs / b.natAbs : Nat) : Int) else -((a.natAbs / b.natAbs : Nat) : Int)) := by
  have hn : ∀ x : Int, x < 0 → x = -(x.natAbs : Int) := fun x h => by omega
  have hp : ∀ x : Int, ¬ x < 0 → x = (x.natAbs : Int) := fun x h => by omega
  by_cases h1 : a < 0 <;> by_cases h2 : b < 0
  · rw [if_pos (by simp [h1, h2])]
    conv => lhs; rw [hn a h1, hn b h2]
    rw [Int.neg_tdiv, Int.tdiv_neg, Int.neg_neg, Int.ofNat_tdiv]
  · rw [if_neg (by simp [h1, h2])]
    conv => lhs; rw [hn a h1, hp b h2]
    rw [Int.neg_tdiv, Int.ofNat_tdiv]
  · rw [if_neg (by simp [h1, h2])]
    conv => lhs; rw [hp a h1, hn b h2]
    rw [Int.tdiv_neg, Int.ofNat_tdiv]
  · rw [if_pos (by simp [h1, h2])]
    conv => lhs; rw [hp a h1, hp b h2]
    rw [Int.ofNat_tdiv]
theorem mul_sign (a b : Int) : a * b = (if (a < 0 ↔ b < 0) then ((a.natAbs * b.natAbs : Nat) : Int) else -((a.natAbs * b.natAbs : Nat) : Int)) := by
  have hn : ∀ x : Int, x < 0 → x = -(x.natAbs : Int) := fun x h => by omega
  have hp : ∀ x : Int, ¬ x < 0 → x = (x.natAbs : Int) := fun x h => by omega
  by_cases h1 : a < 0 <;> by_cases h2 : b < 0
  · rw [if_pos (by simp [h1, h2])]
    conv => lhs; rw [hn a h1, hn b h2]
    rw [Int.neg_mul_neg, Int.natCast_mul]
  · rw [if_neg (by simp [h1, h2])]
    conv => lhs; rw [hn a h1, hp b h2]
    rw [Int.neg_mul, Int.natCast_mul]
  · rw [if_neg (by simp [h1, h2])]
    conv => lhs; rw [hp a h1, hn b h2]
    rw [Int.mul_neg, Int.natCast_mul]
  · rw [if_pos (by simp [h1, h2])]
    conv => lhs; rw [hp a h1, hp b h2]
    rw [Int.natCast_mul]

/-- What is so far from 0 on that side. -/
def atD (far neg : Int) : Int := if neg = 1 then -far else far
theorem atD_quo (a b : Int) (ha : In a) (hb : In b) (h : b ≠ 0) : atD ((a.natAbs : Int) / (b.natAbs : Int)) (signN (bits .xor .i64 a b)) = a.tdiv b := by
  rw [tdiv_sign a b h]
  unfold atD signN
  by_cases hs : a < 0 ↔ b < 0
  · have : ¬ bits .xor .i64 a b < 0 := by rw [xor_neg a b ha hb]; simp [hs]
    rw [if_neg this, if_neg (by decide), if_pos hs]; rfl
  · have : bits .xor .i64 a b < 0 := by rw [xor_neg a b ha hb]; exact hs
    rw [if_pos this, if_pos rfl, if_neg hs]; rfl
theorem atD_mul (a b : Int) (ha : In a) (hb : In b) : atD ((a.natAbs : Int) * (b.natAbs : Int)) (signN (bits .xor .i64 a b)) = a * b := by
  rw [mul_sign a b]
  unfold atD signN
  by_cases hs : a < 0 ↔ b < 0
  · have : ¬ bits .xor .i64 a b < 0 := by rw [xor_neg a b ha hb]; simp [hs]
    rw [if_neg this, if_neg (by decide), if_pos hs, Int.natCast_mul]
  · have : bits .xor .i64 a b < 0 := by rw [xor_neg a b ha hb]; exact hs
    rw [if_pos this, if_pos rfl, if_neg hs, Int.natCast_mul]
/-- A product that is too far even for the quotient's test. -/
theorem mul_far (a b : Int) (ha : In a) (hb : In b) (hy : (b.natAbs : Int) ≠ 0) (h : (9223372036854775808 : Int) / (b.natAbs : Int) < (a.natAbs : Int)) :
    clN (a * b) = 0 ∧ clO (a * b) = sideN (bits .xor .i64 a b) := by
  have hm : 9223372036854775808 < a.natAbs * b.natAbs := by
    have h' : (9223372036854775808 : Nat) / b.natAbs < a.natAbs := by
      have e : (((9223372036854775808 : Nat) / b.natAbs : Nat) : Int) = (9223372036854775808 : Int) / (b.natAbs : Int) := by rw [Int.natCast_ediv]; rfl
      omega
    exact (Nat.div_lt_iff_lt_mul (by omega)).1 h'
  have e := mul_sign a b
  unfold sideN
  by_cases hs : a < 0 ↔ b < 0
  · have : ¬ bits .xor .i64 a b < 0 := by rw [xor_neg a b ha hb]; simp [hs]
    rw [if_neg this]; rw [if_pos hs] at e
    exact cl_high _ (by rw [e]; omega)
  · have : bits .xor .i64 a b < 0 := by rw [xor_neg a b ha hb]; exact hs
    rw [if_pos this]; rw [if_neg hs] at e
    exact cl_low _ (by rw [e]; omega)
theorem mul_near (x y : Nat) (h : y = 0 ∨ ¬ (9223372036854775808 : Int) / (y : Int) < (x : Int)) : x * y ≤ 9223372036854775808 := by
  rcases Nat.eq_zero_or_pos y with rfl | hp
  · omega
  · have h' : x ≤ (9223372036854775808 : Nat) / y := by
      have e : (((9223372036854775808 : Nat) / y : Nat) : Int) = (9223372036854775808 : Int) / (y : Int) := by rw [Int.natCast_ediv]; rfl
      omega
    exact (Nat.le_div_iff_mul_le hp).1 h'

theorem mul_side_low (a b : Int) (h : a * b < -9223372036854775808) : (decide (0 < a) == decide (0 < b)) = false := by
  by_cases h1 : 0 < a <;> by_cases h2 : 0 < b
  · have := Int.mul_pos h1 h2; omega
  · simp [h1, h2]
  · simp [h1, h2]
  · have := Int.mul_nonneg_of_nonpos_of_nonpos (show a ≤ 0 by omega) (show b ≤ 0 by omega); omega
theorem mul_side_high (a b : Int) (h : 9223372036854775807 < a * b) : (decide (0 < a) == decide (0 < b)) = true := by
  by_cases h1 : 0 < a <;> by_cases h2 : 0 < b
  · simp [h1, h2]
  · have := Int.mul_nonpos_of_nonneg_of_nonpos (show 0 ≤ a by omega) (show b ≤ 0 by omega); omega
  · have := Int.mul_nonpos_of_nonpos_of_nonneg (show a ≤ 0 by omega) (show 0 ≤ b by omega); omega
  · simp [h1, h2]

end Go.Iv
