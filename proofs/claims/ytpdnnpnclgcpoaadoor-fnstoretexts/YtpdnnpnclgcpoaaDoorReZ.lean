/- Texts that go together: MathA, NumC, ReadC, DrawC, SpecC. -/
import Derived.Laws.Entries
import Derived.Laws.BitsLemmas
import Derived.Laws.Bits64
import Derived.RowKit
import Derived.Test.YtpdnnpnclgcpoaaDoorRows
import Derived.WalkKit
import Derived.Deep.QuietTactic
import Derived.Deep.RegionWith
import Derived.BigQuiet
import Derived.Carry
import Derived.OneCell
import Derived.WalkSmall
import Derived.OpenShut
/- Plain arithmetic of numbers that may not fit into int64: no Go in sight but for the kit's bit operations. -/
namespace Go.Iv
open Go.RowKit (wrap64)

/-- A number that fits into int64. -/
def In (n : Int) : Prop := -9223372036854775808 ≤ n ∧ n ≤ 9223372036854775807

/-- What does not fit: the number and 0, else 0 and the side. -/
def clN (x : Int) : Int := if x < -9223372036854775808 then 0 else if 9223372036854775807 < x then 0 else x
def clO (x : Int) : Int := if x < -9223372036854775808 then -1 else if 9223372036854775807 < x then 1 else 0

theorem clN_in (x : Int) : In (clN x) := by unfold clN In; split <;> (try split) <;> omega
theorem clO_cases (x : Int) : clO x = -1 ∧ x < -9223372036854775808 ∧ clN x = 0 ∨ clO x = 1 ∧ 9223372036854775807 < x ∧ clN x = 0 ∨ clO x = 0 ∧ In x ∧ clN x = x := by
  unfold clN clO In; split
  · left; omega
  · split
    · right; left; omega
    · right; right; omega
theorem cl_in (x : Int) (h : In x) : clN x = x ∧ clO x = 0 := by unfold In at h; unfold clN clO; constructor <;> (rw [if_neg (by omega), if_neg (by omega)])
theorem cl_low (x : Int) (h : x < -9223372036854775808) : clN x = 0 ∧ clO x = -1 := by unfold clN clO; simp [h]
theorem cl_high (x : Int) (h : 9223372036854775807 < x) : clN x = 0 ∧ clO x = 1 := by
  unfold clN clO; constructor <;> (rw [if_neg (by omega), if_pos h])

theorem w64 (n : Int) (h : In n) : wrap64 n = n := by unfold wrap64; unfold In at h; omega

theorem toNat_msb (v : BitVec 64) : IntKind.i64.wrap (v.toNat : Int) < 0 ↔ v.msb = true := by
  rw [IntKind.wrap_i64, BitVec.msb_eq_decide]
  have := v.isLt
  simp
  omega

theorem ofInt_msb (x : Int) (h : In x) : (BitVec.ofInt 64 x).msb = decide (x < 0) := by
  unfold In at h
  rw [BitVec.msb_eq_decide, BitVec.toNat_ofInt]
  rw [decide_eq_decide]
  have : ((2 ^ 64 : Nat) : Int) = 18446744073709551616 := by decide
  rw [this]
  have e : (2 : Nat) ^ (64 - 1) = 9223372036854775808 := by decide
  rw [e]
  omega

theorem xor_in (x y : Int) : In (bits .xor .i64 x y) := by
  show In (IntKind.i64.wrap _)
  rw [IntKind.wrap_i64]; unfold In; omega
theorem and_in (x y : Int) : In (bits .and .i64 x y) := by
  show In (IntKind.i64.wrap _)
  rw [IntKind.wrap_i64]; unfold In; omega

theorem xor_neg (x y : Int) (hx : In x) (hy : In y) : bits .xor .i64 x y < 0 ↔ ¬ (x < 0 ↔ y < 0) := by
  show IntKind.i64.wrap ((BitVec.ofInt 64 x ^^^ BitVec.ofInt 64 y).toNat : Int) < 0 ↔ _
  rw [toNat_msb, BitVec.msb_xor, ofInt_msb x hx, ofInt_msb y hy]
  by_cases h1 : x < 0 <;> by_cases h2 : y < 0 <;> simp [h1, h2]

theorem and_neg (x y : Int) (hx : In x) (hy : In y) : bits .and .i64 x y < 0 ↔ x < 0 ∧ y < 0 := by
  show IntKind.i64.wrap ((BitVec.ofInt 64 x &&& BitVec.ofInt 64 y).toNat : Int) < 0 ↔ _
  rw [toNat_msb, BitVec.msb_and, ofInt_msb x hx, ofInt_msb y hy]
  by_cases h1 : x < 0 <;> by_cases h2 : y < 0 <;> simp [h1, h2]

def sideN (n : Int) : Int := if n < 0 then -1 else 1
def signN (n : Int) : Int := if n < 0 then 1 else 0

theorem signN_eq (n : Int) (h : In n) : IntKind.u64.wrap n / 9223372036854775808 = signN n := by
  unfold In at h; unfold signN; rw [IntKind.wrap_u64]; split <;> omega
theorem sideN_eq (n : Int) (h : In n) : bits .or .i64 (n / 9223372036854775808) 1 = sideN n := by
  unfold In at h; unfold sideN
  split
  · rw [show n / 9223372036854775808 = -1 by omega]; decide
  · rw [show n / 9223372036854775808 = 0 by omega]; decide

/-- The sum as the program makes it: by uint64. -/
def addW (a b : Int) : Int := wrap64 (IntKind.u64.wrap (IntKind.u64.wrap a + IntKind.u64.wrap b))
def subW (a b : Int) : Int := wrap64 (IntKind.u64.wrap (IntKind.u64.wrap a - IntKind.u64.wrap b))
theorem addW_eq (a b : Int) : addW a b = wrap64 (a + b) := by unfold addW wrap64; simp only [IntKind.wrap_u64]; omega
theorem subW_eq (a b : Int) : subW a b = wrap64 (a - b) := by unfold subW wrap64; simp only [IntKind.wrap_u64]; omega
theorem addW_in (a b : Int) : In (addW a b) := by rw [addW_eq]; unfold wrap64 In; omega
theorem subW_in (a b : Int) : In (subW a b) := by rw [subW_eq]; unfold wrap64 In; omega

theorem add_sign (a b : Int) (ha : In a) (hb : In b) : bits .and .i64 (bits .xor .i64 a (addW a b)) (bits .xor .i64 b (addW a b)) < 0 ↔ ¬ In (a + b) := by
  rw [and_neg _ _ (xor_in _ _) (xor_in _ _), xor_neg _ _ ha (addW_in _ _), xor_neg _ _ hb (addW_in _ _), addW_eq]
  unfold In at *; unfold wrap64; omega
theorem sub_sign (a b : Int) (ha : In a) (hb : In b) : bits .and .i64 (bits .xor .i64 a b) (bits .xor .i64 a (subW a b)) < 0 ↔ ¬ In (a - b) := by
  rw [and_neg _ _ (xor_in _ _) (xor_in _ _), xor_neg _ _ ha hb, xor_neg _ _ ha (subW_in _ _), subW_eq]
  unfold In at *; unfold wrap64; omega

theorem add_over (a b : Int) (ha : In a) (hb : In b) (h : ¬ In (a + b)) : clN (a + b) = 0 ∧ clO (a + b) = sideN a := by
  unfold sideN
  split
  · exact cl_low _ (by unfold In at *; omega)
  · exact cl_high _ (by unfold In at *; omega)
theorem sub_over (a b : Int) (ha : In a) (hb : In b) (h : ¬ In (a - b)) : clN (a - b) = 0 ∧ clO (a - b) = sideN a := by
  unfold sideN
  split
  · exact cl_low _ (by unfold In at *; omega)
  · exact cl_high _ (by unfold In at *; omega)

/-- What NumQuo answers. -/
def quN (a b : Int) : Int := if b = 0 then 0 else clN (a.tdiv b)
def quO (a b : Int) : Int := if b = 0 then 0 else clO (a.tdiv b)
/-- What NumRem answers. -/
def reN (a b : Int) : Int := if b = 0 then 0 else a.tmod b

/-- How far from 0. -/
def dist (n : Int) : Int := (n.natAbs : Int)
theorem dist_in (n : Int) (h : In n) : 0 ≤ dist n ∧ dist n ≤ 9223372036854775808 := by unfold In at h; unfold dist; omega
theorem dist_zero (n : Int) : dist n = 0 ↔ n = 0 := by unfold dist; omega
theorem abs_in (n : Int) (h : In n) : 0 ≤ (n.natAbs : Int) ∧ (n.natAbs : Int) ≤ 9223372036854775808 := by unfold In at h; omega

theorem tmod_in (a b : Int) (ha : In a) : In (a.tmod b) := by
  unfold In at *
  have h1 := Int.natAbs_tmod a b
  have h2 : a.natAbs % b.natAbs ≤ a.natAbs := Nat.mod_le _ _
  have h3 : (a.tmod b).natAbs ≤ a.natAbs := by omega
  by_cases h : 0 ≤ a
  · have := Int.tmod_nonneg b h; omega
  · have : 0 ≤ (-a).tmod b := Int.tmod_nonneg b (by omega)
    rw [Int.neg_tmod] at this
    omega
theorem tdiv_abs (a b : Int) : (a.tdiv b).natAbs = a.natAbs / b.natAbs := Int.natAbs_tdiv a b

/-- The sign of a quotient, by the signs of both. -/
theorem tdiv_sign (a b : Int) (_hb : b ≠ 0) : a.tdiv b = (if (a < 0 ↔ b < 0) then ((a.natAbs / b.natAbs : Nat) : Int) else -((a.natAbs / b.natAbs : Nat) : Int)) := by
  have hn : ∀ x : Int, x < 0 → x = -(x.natAbs : Int) := fun x h => by omega
  have hp : ∀ x : Int, ¬ x < 0 → x = (x.natAbs : Int) := fun x h => by omega
  by_cases h1 : a < 0 <;> by_cases h2 : b < 0
  · rw [if_pos (by simp [h1, h2])]
    conv => lhs; rw [hn a h1, hn b h2]
    rw [Int.neg_tdiv, Int.tdiv_neg, Int.neg_neg, Int.ofNat_tdiv]
  · rw [if_neg (by simp [h1, h2])]
    conv => lhs; rw [hn a h1, hp b h2]
    rw [Int.neg_tdiv, Int.ofNat_tdiv]
  · rw [if_neg (by simp [h1, h2])]
    conv => lhs; rw [hp a h1, hn b h2]
    rw [Int.tdiv_neg, Int.ofNat_tdiv]
  · rw [if_pos (by simp [h1, h2])]
    conv => lhs; rw [hp a h1, hp b h2]
    rw [Int.ofNat_tdiv]
theorem mul_sign (a b : Int) : a * b = (if (a < 0 ↔ b < 0) then ((a.natAbs * b.natAbs : Nat) : Int) else -((a.natAbs * b.natAbs : Nat) : Int)) := by
  have hn : ∀ x : Int, x < 0 → x = -(x.natAbs : Int) := fun x h => by omega
  have hp : ∀ x : Int, ¬ x < 0 → x = (x.natAbs : Int) := fun x h => by omega
  by_cases h1 : a < 0 <;> by_cases h2 : b < 0
  · rw [if_pos (by simp [h1, h2])]
    conv => lhs; rw [hn a h1, hn b h2]
    rw [Int.neg_mul_neg, Int.natCast_mul]
  · rw [if_neg (by simp [h1, h2])]
    conv => lhs; rw [hn a h1, hp b h2]
    rw [Int.neg_mul, Int.natCast_mul]
  · rw [if_neg (by simp [h1, h2])]
    conv => lhs; rw [hp a h1, hn b h2]
    rw [Int.mul_neg, Int.natCast_mul]
  · rw [if_pos (by simp [h1, h2])]
    conv => lhs; rw [hp a h1, hp b h2]
    rw [Int.natCast_mul]

/-- What is so far from 0 on that side. -/
def atD (far neg : Int) : Int := if neg = 1 then -far else far
theorem atD_quo (a b : Int) (ha : In a) (hb : In b) (h : b ≠ 0) : atD ((a.natAbs : Int) / (b.natAbs : Int)) (signN (bits .xor .i64 a b)) = a.tdiv b := by
  rw [tdiv_sign a b h]
  unfold atD signN
  by_cases hs : a < 0 ↔ b < 0
  · have : ¬ bits .xor .i64 a b < 0 := by rw [xor_neg a b ha hb]; simp [hs]
    rw [if_neg this, if_neg (by decide), if_pos hs]; rfl
  · have : bits .xor .i64 a b < 0 := by rw [xor_neg a b ha hb]; exact hs
    rw [if_pos this, if_pos rfl, if_neg hs]; rfl
theorem atD_mul (a b : Int) (ha : In a) (hb : In b) : atD ((a.natAbs : Int) * (b.natAbs : Int)) (signN (bits .xor .i64 a b)) = a * b := by
  rw [mul_sign a b]
  unfold atD signN
  by_cases hs : a < 0 ↔ b < 0
  · have : ¬ bits .xor .i64 a b < 0 := by rw [xor_neg a b ha hb]; simp [hs]
    rw [if_neg this, if_neg (by decide), if_pos hs, Int.natCast_mul]
  · have : bits .xor .i64 a b < 0 := by rw [xor_neg a b ha hb]; exact hs
    rw [if_pos this, if_pos rfl, if_neg hs, Int.natCast_mul]
/-- A product that is too far even for the quotient's test. -/
theorem mul_far (a b : Int) (ha : In a) (hb : In b) (hy : (b.natAbs : Int) ≠ 0) (h : (9223372036854775808 : Int) / (b.natAbs : Int) < (a.natAbs : Int)) :
    clN (a * b) = 0 ∧ clO (a * b) = sideN (bits .xor .i64 a b) := by
  have hm : 9223372036854775808 < a.natAbs * b.natAbs := by
    have h' : (9223372036854775808 : Nat) / b.natAbs < a.natAbs := by
      have e : (((9223372036854775808 : Nat) / b.natAbs : Nat) : Int) = (9223372036854775808 : Int) / (b.natAbs : Int) := by rw [Int.natCast_ediv]; rfl
      omega
    exact (Nat.div_lt_iff_lt_mul (by omega)).1 h'
  have e := mul_sign a b
  unfold sideN
  by_cases hs : a < 0 ↔ b < 0
  · have : ¬ bits .xor .i64 a b < 0 := by rw [xor_neg a b ha hb]; simp [hs]
    rw [if_neg this]; rw [if_pos hs] at e
    exact cl_high _ (by rw [e]; omega)
  · have : bits .xor .i64 a b < 0 := by rw [xor_neg a b ha hb]; exact hs
    rw [if_pos this]; rw [if_neg hs] at e
    exact cl_low _ (by rw [e]; omega)
theorem mul_near (x y : Nat) (h : y = 0 ∨ ¬ (9223372036854775808 : Int) / (y : Int) < (x : Int)) : x * y ≤ 9223372036854775808 := by
  rcases Nat.eq_zero_or_pos y with rfl | hp
  · omega
  · have h' : x ≤ (9223372036854775808 : Nat) / y := by
      have e : (((9223372036854775808 : Nat) / y : Nat) : Int) = (9223372036854775808 : Int) / (y : Int) := by rw [Int.natCast_ediv]; rfl
      omega
    exact (Nat.le_div_iff_mul_le hp).1 h'

theorem mul_side_low (a b : Int) (h : a * b < -9223372036854775808) : (decide (0 < a) == decide (0 < b)) = false := by
  by_cases h1 : 0 < a <;> by_cases h2 : 0 < b
  · have := Int.mul_pos h1 h2; omega
  · simp [h1, h2]
  · simp [h1, h2]
  · have := Int.mul_nonneg_of_nonpos_of_nonpos (show a ≤ 0 by omega) (show b ≤ 0 by omega); omega
theorem mul_side_high (a b : Int) (h : 9223372036854775807 < a * b) : (decide (0 < a) == decide (0 < b)) = true := by
  by_cases h1 : 0 < a <;> by_cases h2 : 0 < b
  · simp [h1, h2]
  · have := Int.mul_nonpos_of_nonneg_of_nonpos (show 0 ≤ a by omega) (show b ≤ 0 by omega); omega
  · have := Int.mul_nonpos_of_nonpos_of_nonneg (show a ≤ 0 by omega) (show 0 ≤ b by omega); omega
  · simp [h1, h2]

end Go.Iv

/- What the program's and the specification's numbers answer, function by function: each call returns just that, and the world stays. -/
namespace Go.Proofs.YtpdnnpnclgcpoaaDoor
open Go.RowKit Go.Iv

theorem ret_int {k : IntKind} {a b : Int} (h : a = b) : Ending.returned (.int k a) = .returned (.int k b) := by rw [h]
theorem ret_int2 {k l : IntKind} {a b c d : Int} (h : a = b ∧ c = d) : Ending.returned (.tuple #[.int k a, .int l c]) = .returned (.tuple #[.int k b, .int l d]) := by rw [h.1, h.2]

end Go.Proofs.YtpdnnpnclgcpoaaDoor

/- The reader of a code: what each of its methods answers is bounded; it turns no block but its own. -/
namespace Go.Proofs.YtpdnnpnclgcpoaaDoor
open Go.RowKit Go.Iv

theorem or_u64_nonneg (x y : Int) : 0 ≤ bits .or .u64 x y := by show 0 ≤ IntKind.u64.wrap _; rw [IntKind.wrap_u64]; omega
theorem or_u64_le (x y : Int) : bits .or .u64 x y ≤ 18446744073709551615 := by show IntKind.u64.wrap _ ≤ _; rw [IntKind.wrap_u64]; omega

/-- The code: so many bytes at its address. -/
def Code (w : World) (a : Option Addr) (len : Nat) : Prop :=
  len ≤ 1048576 ∧ (len = 0 ∨ ∃ cb co, a = some ⟨cb, co, none⟩ ∧ ∀ i, i < len → ∃ z : Int, w.cell? ⟨cb, co + i, none⟩ = some (.int .u8 z) ∧ 0 ≤ z ∧ z ≤ 255)

/-- The reader lies in block b, over the code at a. -/
def Rdr (w : World) (b : Nat) (a : Option Addr) (len cap : Nat) : Prop :=
  (∃ p : Nat, p ≤ len ∧ w.heap[b]? = some (.cells #[.slice a len cap, .int .i64 p] 104 (0, 0))) ∧ Code w a len ∧ ∀ x, a = some x → 0 < len → x.block ≠ b

/-- All blocks that were there but b are as they were. -/
structure Kp (b : Nat) (w w' : World) : Prop where
  os : w'.os = w.os
  tape : w'.tape = w.tape
  output : w'.output = w.output
  size : w.heap.size ≤ w'.heap.size
  block : ∀ k, k < w.heap.size → k ≠ b → w'.heap[k]? = w.heap[k]?

theorem Kp.refl (b : Nat) (w : World) : Kp b w w := ⟨rfl, rfl, rfl, Nat.le_refl _, fun _ _ _ => rfl⟩
theorem Kp.trans {b : Nat} {u v w : World} (h : Kp b u v) (k : Kp b v w) : Kp b u w :=
  ⟨k.os.trans h.os, k.tape.trans h.tape, k.output.trans h.output, Nat.le_trans h.size k.size, fun i hi hb => (k.block i (Nat.lt_of_lt_of_le hi h.size) hb).trans (h.block i hi hb)⟩
theorem Kp.drewN {b : Nat} {u v : World} (h : Kp b u v) (n : Nat) : Kp b u (v.drewN n) := ⟨h.os, h.tape, h.output, h.size, h.block⟩
theorem Kp.undrew {b : Nat} {u v : World} (h : Kp b u.drew v) : Kp b u v := ⟨h.os, h.tape, h.output, h.size, h.block⟩
theorem Kp.undrewN {b n : Nat} {u v : World} (h : Kp b (u.drewN n) v) : Kp b u v := ⟨h.os, h.tape, h.output, h.size, h.block⟩
theorem Kp.drew {b : Nat} {u v : World} (h : Kp b u v) : Kp b u v.drew := ⟨h.os, h.tape, h.output, h.size, h.block⟩
theorem Kp.setCell {b o : Nat} {u v : World} (h : Kp b u v) (x : Value) : Kp b u (v.setCell ⟨b, o, none⟩ x) :=
  h.trans ⟨rfl, rfl, rfl, by simp [World.setCell], fun k _ hb => Below.heap_setCell _ _ _ _ (by exact hb)⟩
theorem Kp.alloc {b : Nat} {u v : World} (h : Kp b u v) (o : Obj) : Kp b u (v.alloc o) :=
  h.trans ⟨rfl, rfl, rfl, by simp, fun k hk _ => Below.heap_alloc _ _ _ hk⟩
theorem Kp.below {b B : Nat} {u v : World} (h : Kp b u v) (hB : B ≤ b) (hs : B ≤ u.heap.size) : Below B u v :=
  ⟨h.os, h.tape, h.output, h.size, fun k hk => h.block k (by omega) (by omega)⟩

theorem Code.kept {b : Nat} {w w' : World} {a : Option Addr} {len : Nat} (h : Code w a len) (hb : ∀ x, a = some x → 0 < len → x.block ≠ b) (k : Kp b w w') : Code w' a len := by
  refine ⟨h.1, ?_⟩
  rcases h.2 with h0 | ⟨cb, co, ha, hc⟩
  · exact .inl h0
  · refine .inr ⟨cb, co, ha, fun i hi => ?_⟩
    obtain ⟨z, hz, h1⟩ := hc i hi
    refine ⟨z, ?_, h1⟩
    have hlt := World.block_lt_of_cell? w _ hz
    rw [World.cell?_of_block (w := w) (k.block cb hlt (hb _ ha (by omega)))]
    exact hz
theorem Rdr.kept {b b' : Nat} {w w' : World} {a : Option Addr} {len cap : Nat} (h : Rdr w b a len cap) (k : Kp b' w w') (hne : b' ≠ b) (hb : ∀ x, a = some x → 0 < len → x.block ≠ b') : Rdr w' b a len cap := by
  obtain ⟨⟨p, hp, hh⟩, hc, hn⟩ := h
  refine ⟨⟨p, hp, ?_⟩, hc.kept hb k, hn⟩
  rw [k.block b (Array.getElem?_eq_some_iff.1 hh).1 (by omega)]
  exact hh
theorem Rdr.lt {b : Nat} {w : World} {a : Option Addr} {len cap : Nat} (h : Rdr w b a len cap) : b < w.heap.size := by
  obtain ⟨⟨p, hp, hh⟩, _⟩ := h
  exact (Array.getElem?_eq_some_iff.1 hh).1

theorem rdr_moved {b : Nat} {a : Option Addr} {len cap p : Nat} {w : World} (m n : Nat) (hp : p < len) (hh : w.heap[b]? = some (.cells #[.slice a len cap, .int .i64 p] 104 (0, 0))) (hc : Code w a len)
    (hn : ∀ x, a = some x → 0 < len → x.block ≠ b) : Rdr (((w.drewN m).setCell ⟨b, 1, none⟩ (.int .i64 ((p : Int) + 1))).drewN n) b a len cap ∧ Kp b w (((w.drewN m).setCell ⟨b, 1, none⟩ (.int .i64 ((p : Int) + 1))).drewN n) := by
  have k : Kp b w (((w.drewN m).setCell ⟨b, 1, none⟩ (.int .i64 ((p : Int) + 1))).drewN n) := (((Kp.refl b w).drewN m).setCell _).drewN n
  refine ⟨⟨⟨p + 1, by omega, ?_⟩, hc.kept hn k, hn⟩, k⟩
  show ((w.drewN m).setCell ⟨b, 1, none⟩ (.int .i64 ((p : Int) + 1))).heap[b]? = _
  simp only [World.setCell, Array.getElem?_modify]
  show Option.map _ (w.heap[b]?) = _
  rw [hh]
  simp

/-- What the methods of the reader leave. -/
def Left (b : Nat) (a : Option Addr) (len cap : Nat) (w w' : World) : Prop := Rdr w' b a len cap ∧ Kp b w w'
theorem Left.trans {b : Nat} {a : Option Addr} {len cap : Nat} {u v w : World} (h : Left b a len cap u v) (k : Left b a len cap v w) : Left b a len cap u w := ⟨k.1, h.2.trans k.2⟩
theorem Left.refl {b : Nat} {a : Option Addr} {len cap : Nat} {w : World} (h : Rdr w b a len cap) : Left b a len cap w w := ⟨h, Kp.refl _ _⟩
theorem Rdr.drew {b : Nat} {a : Option Addr} {len cap : Nat} {w : World} (h : Rdr w b a len cap) : Rdr w.drew b a len cap := h
theorem Rdr.drewN {b : Nat} {a : Option Addr} {len cap : Nat} {w : World} (h : Rdr w b a len cap) (n : Nat) : Rdr (w.drewN n) b a len cap := h
theorem Left.drew {b : Nat} {a : Option Addr} {len cap : Nat} {u w : World} (h : Left b a len cap u w) : Left b a len cap u w.drew := ⟨h.1, h.2.drew⟩
theorem Left.drewN {b : Nat} {a : Option Addr} {len cap : Nat} {u w : World} (h : Left b a len cap u w) (n : Nat) : Left b a len cap u (w.drewN n) := ⟨h.1, h.2.drewN n⟩
theorem Code.alloc {a : Option Addr} {len : Nat} {w : World} (h : Code w a len) (o : Obj) : Code (w.alloc o) a len := by
  refine ⟨h.1, ?_⟩
  rcases h.2 with h0 | ⟨cb, co, ha, hc⟩
  · exact .inl h0
  · refine .inr ⟨cb, co, ha, fun i hi => ?_⟩
    obtain ⟨z, hz, h1⟩ := hc i hi
    refine ⟨z, ?_, h1⟩
    have hlt := World.block_lt_of_cell? w _ hz
    rw [World.cell?_of_block (w := w) (Below.heap_alloc w o cb hlt)]
    exact hz
theorem Rdr.alloc {b : Nat} {a : Option Addr} {len cap : Nat} {w : World} (h : Rdr w b a len cap) (o : Obj) : Rdr (w.alloc o) b a len cap := by
  obtain ⟨⟨p, hp, hh⟩, hc, hn⟩ := h
  refine ⟨⟨p, hp, ?_⟩, hc.alloc o, hn⟩
  rw [Below.heap_alloc w o b (Array.getElem?_eq_some_iff.1 hh).1]
  exact hh
theorem Left.alloc {b : Nat} {a : Option Addr} {len cap : Nat} {u w : World} (h : Left b a len cap u w) (o : Obj) : Left b a len cap u (w.alloc o) := ⟨h.1.alloc o, h.2.alloc o⟩

set_option maxHeartbeats 400000 in
theorem next_c (b : Nat) (a : Option Addr) (len cap : Nat) (w : World) (h : Rdr w b a len cap) : Calls Tryd.prog 112 #[.pointer (some ⟨b, 0, none⟩)] w fun e w' => ∃ n : Int, e = .returned (.int .i64 n) ∧ 0 ≤ n ∧ n ≤ 255 ∧ Left b a len cap w w' := by
  obtain ⟨⟨p, hp, hh⟩, hc, hn⟩ := h
  have c0 : w.cell? ⟨b, 0, none⟩ = some (.slice a len cap) := by simp [World.cell?, hh]
  have c1 : w.cell? ⟨b, 1, none⟩ = some (.int .i64 p) := by simp [World.cell?, hh]
  have f1 : w.frozen? ⟨b, 1, none⟩ = false := by simp [World.frozen?, hh]
  have hl := hc.1
  by_cases hge : len ≤ p
  · have R : Hid (Rdr w b a len cap) := ⟨⟨p, hp, hh⟩, hc, hn⟩
    have hge' : (len : Int) ≤ (p : Int) := by omega
    clear hh hc hn
    go_enter Tryd.func112, Tryd.ntmps112
    go_wp2
    go_quiet (fail)
    go_wp2
    go_ret
    exact ⟨0, rfl, by decide, by decide, (Left.refl R.out).drewN _⟩
  · have R : Hid (∀ m n, Rdr (((w.drewN m).setCell ⟨b, 1, none⟩ (.int .i64 ((p : Int) + 1))).drewN n) b a len cap ∧ Kp b w (((w.drewN m).setCell ⟨b, 1, none⟩ (.int .i64 ((p : Int) + 1))).drewN n)) := fun m n => rdr_moved m n (by omega) hh hc hn
    rcases hc.2 with h0 | ⟨cb, co, ha, hcs⟩
    · omega
    obtain ⟨z, hz, z0, z1⟩ := hcs p (by omega)
    have hge' : ¬ (len : Int) ≤ (p : Int) := by omega
    have hcb : cb ≠ b := hn _ ha (by omega)
    subst ha
    clear hh hc hn hcs
    go_enter Tryd.func112, Tryd.ntmps112
    go_wp2
    go_quiet (fail)
    go_wp2
    go_quiet (fail)
    go_wp2
    go_ret
    exact ⟨z, rfl, z0, z1, R.out _ _⟩

set_option maxHeartbeats 400000 in
theorem below_c (b : Nat) (a : Option Addr) (len cap : Nat) (n : Int) (hn : n ≤ 1000000000) (w : World) (h : Rdr w b a len cap) : Calls Tryd.prog 78 #[.pointer (some ⟨b, 0, none⟩), .int .i64 n] w fun e w' => ∃ r : Int, e = .returned (.int .i64 r) ∧ 0 ≤ r ∧ r ≤ 1000000000 ∧ (r < n ∨ r = 0) ∧ Left b a len cap w w' := by
  have R : Hid (Rdr w b a len cap) := h
  clear h
  by_cases h1 : n ≤ 1
  · go_enter Tryd.func78, Tryd.ntmps78
    go_wp2
    go_ret
    exact ⟨0, rfl, by decide, by decide, .inr rfl, Left.refl R.out⟩
  have hz : ¬ n = 0 := by omega
  by_cases h2 : n ≤ 256
  · go_enter Tryd.func78, Tryd.ntmps78
    go_wp2_with fail
    refine (next_c _ _ _ _ _ R.out).mono ?_
    rintro e w' ⟨x, rfl, x0, x1, hl⟩
    have HL : Hid (Left b a len cap w w') := hl
    clear hl
    have t0 := Int.emod_nonneg x hz
    have t1 := Int.emod_lt_of_pos x (show 0 < n by omega)
    go_wp2
    go_ret
    exact ⟨x % n, rfl, t0, by omega, .inl t1, HL.out⟩
  · go_enter Tryd.func78, Tryd.ntmps78
    go_wp2_with fail
    refine (next_c _ _ _ _ _ R.out).mono ?_
    rintro e w' ⟨x, rfl, x0, x1, hl⟩
    have HL : Hid (Left b a len cap w w') := hl
    clear hl
    go_wp2_with fail
    refine (next_c _ _ _ _ _ HL.out.1).mono ?_
    rintro e w2 ⟨y, rfl, y0, y1, hl2⟩
    have HL2 : Hid (Left b a len cap w w2) := HL.out.trans hl2
    clear hl2
    have t0 := Int.emod_nonneg (x * 256 + y) hz
    have t1 := Int.emod_lt_of_pos (x * 256 + y) (show 0 < n by omega)
    go_wp2
    go_ret
    exact ⟨(x * 256 + y) % n, rfl, t0, by omega, .inl t1, HL2.out⟩

theorem once_c (b : Nat) (a : Option Addr) (len cap : Nat) (n : Int) (hn : n ≤ 1000000000) (hn' : -1000000 ≤ n) (w : World) (h : Rdr w b a len cap) : Calls Tryd.prog 35 #[.pointer (some ⟨b, 0, none⟩), .int .i64 n] w fun e w' => ∃ r : Bool, e = .returned (.bool r) ∧ Left b a len cap w w' := by
  have R : Hid (Rdr w b a len cap) := h
  clear h
  go_enter Tryd.func35, Tryd.ntmps35
  go_wp2_with fail
  refine (below_c _ _ _ _ _ hn _ R.out).mono ?_
  rintro e w' ⟨x, rfl, x0, x1, x2, hl⟩
  have HL : Hid (Left b a len cap w w') := hl
  clear hl x2
  go_wp2
  go_ret
  exact ⟨_, rfl, HL.out⟩

set_option maxHeartbeats 400000 in
theorem word_c (b : Nat) (a : Option Addr) (len cap : Nat) (w : World) (h : Rdr w b a len cap) : Calls Tryd.prog 113 #[.pointer (some ⟨b, 0, none⟩)] w fun e w' => ∃ r : Int, e = .returned (.int .u64 r) ∧ 0 ≤ r ∧ r ≤ 18446744073709551615 ∧ Left b a len cap w w' := by
  have R : Hid (Rdr w b a len cap) := h
  clear h
  go_enter Tryd.func113, Tryd.ntmps113
  go_wp2
  go_loopw [3, 4] (fun x i wr => ∃ k : Nat, k ≤ 8 ∧ i = .int .i64 k ∧ (∃ r : Int, x = .int .u64 r ∧ 0 ≤ r ∧ r ≤ 18446744073709551615) ∧ Left b a len cap w wr) (fun _ i _ => 8 - (intOf i).toNat)
  case atStart => exact ⟨0, Nat.zero_le _, rfl, ⟨0, rfl, by decide, by decide⟩, Left.refl R.out⟩
  case round =>
    obtain ⟨k, hk, rfl, ⟨r, rfl, r0, r1⟩, hl⟩ := hrel
    have HL : Hid (Left b a len cap w wr) := hl
    clear hl
    by_cases hlt : k < 8
    · go_wp2_with fail
      refine (next_c _ _ _ _ _ HL.out.1).mono ?_
      rintro e w2 ⟨y, rfl, y0, y1, hl2⟩
      have HL2 : Hid (Left b a len cap w w2) := HL.out.trans hl2
      clear hl2
      go_wp2
      go_roundw
      case rel => exact ⟨k + 1, by omega, by go_num, ⟨_, rfl, or_u64_nonneg _ _, or_u64_le _ _⟩, HL2.out⟩
      case measure => simp [intOf]; omega
    · go_wp2
      go_ret
      exact ⟨r, rfl, r0, r1, HL.out⟩
end Go.Proofs.YtpdnnpnclgcpoaaDoor

/- What is drawn: numbers that fit. -/
namespace Go.Proofs.YtpdnnpnclgcpoaaDoor
open Go.RowKit Go.Iv

theorem div_pow_in (x : Int) (k : Nat) (h : In x) : In (x / 2 ^ k) := by
  have hp : (0 : Int) < 2 ^ k := Int.pow_pos (by decide)
  have hp1 : (1 : Int) ≤ 2 ^ k := hp
  unfold In at *
  by_cases h0 : 0 ≤ x
  · have h1 := Int.ediv_nonneg h0 (Int.le_of_lt hp)
    have h2 := Int.ediv_le_self ((2 : Int) ^ k) h0
    omega
  · have h1 : x ≤ x / 2 ^ k := (Int.le_ediv_iff_mul_le hp).2 (by
      have := Int.mul_le_mul_of_nonpos_left (a := x) (b := 2 ^ k) (c := 1) (by omega) hp1
      omega)
    have h2 : x / 2 ^ k < 0 := Int.ediv_neg_of_neg_of_pos (by omega) hp
    omega

/-- A number of a literal slice, read behind calls of the reader's methods. -/
theorem lit_cell {w2 W : World} {b : Nat} (l : List Int) (ty : TypeId) (k : Kp b (W.alloc (.cells (l.map (Value.int .i64)).toArray ty)) w2) (hb : b < W.heap.size) (i : Nat) (hi : i < l.length) (hin : ∀ n ∈ l, In n) :
    ∃ z, w2.cell? ⟨W.heap.size, i, none⟩ = some (.int .i64 z) ∧ In z := by
  refine ⟨l[i], ?_, hin _ (List.getElem_mem hi)⟩
  have h1 : (W.alloc (.cells (l.map (Value.int .i64)).toArray ty)).heap[W.heap.size]? = some (.cells (l.map (Value.int .i64)).toArray ty) := heap_alloc_new W _
  have h2 := k.block W.heap.size (by simp) (by omega)
  rw [h1] at h2
  simp [World.cell?, h2, hi]

set_option maxHeartbeats 1000000 in
theorem num_c (b : Nat) (a : Option Addr) (len cap : Nat) (w : World) (h : Rdr w b a len cap) : Calls Tryd.prog 97 #[.pointer (some ⟨b, 0, none⟩)] w fun e w' => ∃ n : Int, e = .returned (.int .i64 n) ∧ In n ∧ Left b a len cap w w' := by
  have R : Hid (Rdr w b a len cap) := h
  clear h
  go_enter Tryd.func97, Tryd.ntmps97
  go_wp2_with fail
  refine (below_c _ _ _ _ _ (by decide) _ R.out).mono ?_
  rintro e w1 ⟨x, rfl, x0, x1, x2, hl⟩
  have HL : Hid (Left b a len cap w w1) := hl
  clear hl x2
  by_cases e0 : x = 0
  · have e0' : (x == 0) = true := by simpa using e0
    clear e0
    go_wp2_with fail
    refine (below_c _ _ _ _ _ (by decide) _ (HL.out.1.alloc _)).mono ?_
    rintro e w2 ⟨y, rfl, y0, y1, y2, hl⟩
    have HL2 : Hid (Left b a len cap w w2) := ((HL.out).alloc _).trans hl
    have hlt : b < w1.heap.size := HL.out.1.lt
    obtain ⟨z, hz, hin⟩ := lit_cell [-9223372036854775808, -9223372036854775807, 9223372036854775807, 9223372036854775806, -1, 0, 1, 4294967296, -4294967296, 3037000500] 2 hl.2 hlt y.toNat (by simp; omega) (by simp [In])
    have y3 : y < 10 := by omega
    have HZ : Hid (In z) := hin
    clear hl y2 hlt hin
    go_wp2
    go_ret
    exact ⟨z, rfl, HZ.out, HL2.out⟩
  have e0' : (x == 0) = false := by simpa using e0
  by_cases e1 : x = 1
  · have e1' : (x == 1) = true := by simpa using e1
    clear e0 e1
    go_wp2_with fail
    refine (word_c _ _ _ _ _ HL.out.1).mono ?_
    rintro e w2 ⟨y, rfl, y0, y1, hl⟩
    have HL2 : Hid (Left b a len cap w w2) := HL.out.trans hl
    clear hl
    go_wp2
    go_ret
    exact ⟨_, rfl, by unfold In wrap64; omega, HL2.out⟩
  have e1' : (x == 1) = false := by simpa using e1
  by_cases e2 : x = 2
  · have e2' : (x == 2) = true := by simpa using e2
    clear e0 e1 e2
    go_wp2_with fail
    refine (word_c _ _ _ _ _ HL.out.1).mono ?_
    rintro e w2 ⟨y, rfl, y0, y1, hl⟩
    have HL2 : Hid (Left b a len cap w w2) := HL.out.trans hl
    clear hl
    go_wp2_with fail
    refine (below_c _ _ _ _ _ (by decide) _ HL2.out.1).mono ?_
    rintro e w3 ⟨z, rfl, z0, z1, z2, hl⟩
    have HL3 : Hid (Left b a len cap w w3) := HL2.out.trans hl
    have z3 : z < 60 := by omega
    clear hl z2
    go_wp2
    go_ret
    exact ⟨_, rfl, div_pow_in _ _ (by unfold In wrap64; omega), HL3.out⟩
  have e2' : (x == 2) = false := by simpa using e2
  clear e0 e1 e2
  go_wp2_with fail
  refine (below_c _ _ _ _ _ (by decide) _ HL.out.1).mono ?_
  rintro e w2 ⟨z, rfl, z0, z1, z2, hl⟩
  have HL3 : Hid (Left b a len cap w w2) := HL.out.trans hl
  clear hl z2
  go_wp2
  go_ret
  exact ⟨_, rfl, by unfold In; omega, HL3.out⟩
/-- What the walk is told of a slice of bytes that is not too long is a code. -/
theorem code_of_row {w : World} {a : Option Addr} {len cap : Nat} {zs : List Int}
    (h : (a = none ∧ len = 0 ∧ cap = 0 ∧ zs = []) ∨ ∃ x, a = some x ∧ len ≤ cap ∧ cap ≤ maxLen ∧ zs.length = cap ∧ (∀ i, i < zs.length → w.cell? (x.add i) = some (.int .u8 (zs.getD i 0))) ∧ ∀ n ∈ zs, (Lit.int .u8 n).wf = true)
    (hb : len ≤ 1048576) : Code w a len := by
  refine ⟨hb, ?_⟩
  rcases h with ⟨_, h0, _⟩ | ⟨x, rfl, hl, hm, hz, hcell, hwz⟩
  · exact .inl h0
  · by_cases h0 : len = 0
    · exact .inl h0
    · obtain ⟨b, off, spot⟩ := x
      have hc := hcell 0 (by omega)
      have hspot : spot = none := by simpa [Addr.add] using World.cell?_spot hc
      subst hspot
      have hadd : ∀ i, (⟨b, off, none⟩ : Addr).add i = ⟨b, off + i, none⟩ := by intro i; unfold Addr.add; split <;> simp_all
      refine .inr ⟨b, off, rfl, fun i hi => ⟨zs.getD i 0, by rw [← hadd i]; exact hcell i (by omega), ?_⟩⟩
      have hw := hwz (zs.getD i 0) (by
        rw [List.getD_eq_getElem?_getD, List.getElem?_eq_getElem (by omega)]
        simp)
      exact bounds_u8 hw
theorem Code.below {w w' : World} {a : Option Addr} {len : Nat} (h : Code w a len) (k : Below w.heap.size w w') : Code w' a len := by
  refine ⟨h.1, ?_⟩
  rcases h.2 with h0 | ⟨cb, co, ha, hc⟩
  · exact .inl h0
  · refine .inr ⟨cb, co, ha, fun i hi => ?_⟩
    obtain ⟨z, hz, h1⟩ := hc i hi
    refine ⟨z, ?_, h1⟩
    rw [k.cell (p := ⟨cb, co + i, none⟩) (World.block_lt_of_cell? w _ hz)]
    exact hz

theorem open_c (a : Option Addr) (len cap : Nat) (w : World) : Calls Tryd.prog 32 #[.slice a len cap] w fun e w' => e = .returned (.pointer (some ⟨w.heap.size, 0, none⟩)) ∧ w' = w.alloc (.cells #[.slice a len cap, .int .i64 0] 104) := by
  go_enter Tryd.func32, Tryd.ntmps32
  go_wp2
  go_ret
  exact ⟨rfl, rfl⟩
theorem open_rdr (a : Option Addr) (len cap : Nat) (w : World) (h : Code w a len) : Left w.heap.size a len cap w (w.alloc (.cells #[.slice a len cap, .int .i64 0] 104)) := by
  refine ⟨⟨⟨0, Nat.zero_le _, heap_alloc_new w _⟩, h.alloc _, ?_⟩, (Kp.refl _ _).alloc _⟩
  intro x hx hl
  rcases h.2 with h0 | ⟨cb, co, ha, hc⟩
  · omega
  · obtain ⟨z, hz, _⟩ := hc 0 hl
    have hlt := World.block_lt_of_cell? w _ hz
    rw [ha] at hx
    simp at hx
    subst hx
    simp at hlt ⊢
    omega

def pick4 (c0 c1 c2 c3 y : Int) : Int := if y = 0 then c0 else if y = 1 then c1 else if y = 2 then c2 else c3
theorem pick4_in {c0 c1 c2 c3 : Int} (y : Int) (h0 : In c0) (h1 : In c1) (h2 : In c2) (h3 : In c3) : In (pick4 c0 c1 c2 c3 y) := by
  unfold pick4; split
  · exact h0
  · split
    · exact h1
    · split
      · exact h2
      · exact h3
theorem pick4_cell (W : World) (c0 c1 c2 c3 : Int) (ty : TypeId) (y : Int) (h0 : 0 ≤ y) (h1 : y < 4) : (W.alloc (.cells #[.int .i64 c0, .int .i64 c1, .int .i64 c2, .int .i64 c3] ty)).cell? ⟨W.heap.size, y.toNat, none⟩ = some (.int .i64 (pick4 c0 c1 c2 c3 y)) := by
  have h : (W.alloc (.cells #[.int .i64 c0, .int .i64 c1, .int .i64 c2, .int .i64 c3] ty)).heap[W.heap.size]? = some (.cells #[.int .i64 c0, .int .i64 c1, .int .i64 c2, .int .i64 c3] ty) := heap_alloc_new W _
  rcases (show y = 0 ∨ y = 1 ∨ y = 2 ∨ y = 3 by omega) with rfl | rfl | rfl | rfl <;> (unfold World.cell?; rw [h]; simp [pick4])
theorem pick4_kept {W w2 : World} {b : Nat} {c0 c1 c2 c3 : Int} {ty : TypeId} {y : Int} (k : Kp b (W.alloc (.cells #[.int .i64 c0, .int .i64 c1, .int .i64 c2, .int .i64 c3] ty)) w2) (hb : b < W.heap.size) (h0 : 0 ≤ y) (h1 : y < 4) :
    w2.cell? ⟨W.heap.size, y.toNat, none⟩ = some (.int .i64 (pick4 c0 c1 c2 c3 y)) := by
  rw [World.cell?_of_block (w := W.alloc (.cells #[.int .i64 c0, .int .i64 c1, .int .i64 c2, .int .i64 c3] ty)) (k.block W.heap.size (by simp) (by omega))]
  exact pick4_cell W c0 c1 c2 c3 ty y h0 h1
theorem iwrap_in (x : Int) : In (IntKind.i64.wrap x) := by rw [IntKind.wrap_i64]; unfold In; omega
theorem wrap_in (x : Int) : In (wrap64 x) := by unfold In wrap64; omega

theorem ret_bool {a b : Bool} (h : a = b) : Ending.returned (.bool a) = .returned (.bool b) := by rw [h]
theorem big_c (a : Option Addr) (len cap : Nat) (h : len ≤ 1048576) (w : World) : Calls Tryd.prog 6 #[.slice a len cap] w fun e w' => e = .returned (.bool false) ∧ w' = w := by
  go_enter Tryd.func6, Tryd.ntmps6
  go_wp2
  go_ret
  exact ⟨ret_bool (decide_eq_false (by omega)), rfl⟩
theorem big_yes (a : Option Addr) (len cap : Nat) (h : 1048576 < len) (hm : len ≤ maxLen) (w : World) : Calls Tryd.prog 6 #[.slice a len cap] w fun e w' => e = .returned (.bool true) ∧ w' = w := by
  unfold maxLen at hm
  go_enter Tryd.func6, Tryd.ntmps6
  go_wp2
  go_ret
  exact ⟨ret_bool (decide_eq_true (by omega)), rfl⟩
theorem row_len {w : World} {a : Option Addr} {len cap : Nat} {zs : List Int}
    (h : (a = none ∧ len = 0 ∧ cap = 0 ∧ zs = []) ∨ ∃ x, a = some x ∧ len ≤ cap ∧ cap ≤ maxLen ∧ zs.length = cap ∧ (∀ i, i < zs.length → w.cell? (x.add i) = some (.int .u8 (zs.getD i 0))) ∧ ∀ n ∈ zs, (Lit.int .u8 n).wf = true) : len ≤ maxLen := by
  rcases h with ⟨_, h0, _⟩ | ⟨x, rfl, hl, hm, _⟩
  · omega
  · omega
end Go.Proofs.YtpdnnpnclgcpoaaDoor

/- What the specification's numbers answer: the same as the program's. -/
namespace Go.Proofs.YtpdnnpnclgcpoaaDoor
open Go.RowKit Go.Iv

theorem sNumAdd_c (a b : Int) (ha : In a) (hb : In b) (w : World) : Calls Tryd.prog 132 #[.int .i64 a, .int .i64 b] w fun e w' => e = .returned (.tuple #[.int .i64 (clN (a + b)), .int .i64 (clO (a + b))]) ∧ w' = w := by
  obtain ⟨ha1, ha2⟩ := ha
  obtain ⟨hb1, hb2⟩ := hb
  by_cases hp : 0 < b
  · by_cases hf : 9223372036854775807 < a + b
    · have H : Hid (clN (a + b) = 0 ∧ clO (a + b) = 1) := cl_high _ hf
      go_enter Tryd.func132, Tryd.ntmps132
      go_wp2
      go_ret2
      exact ⟨ret_int2 (by rw [H.out.1, H.out.2]; exact ⟨rfl, rfl⟩), rfl⟩
    · have H : Hid (clN (a + b) = a + b ∧ clO (a + b) = 0) := cl_in _ (by unfold In; omega)
      go_enter Tryd.func132, Tryd.ntmps132
      go_wp2
      go_ret2
      exact ⟨ret_int2 (by rw [H.out.1, H.out.2]; exact ⟨rfl, rfl⟩), rfl⟩
  · by_cases hn : b < 0
    · by_cases hf : a + b < -9223372036854775808
      · have H : Hid (clN (a + b) = 0 ∧ clO (a + b) = -1) := cl_low _ hf
        go_enter Tryd.func132, Tryd.ntmps132
        go_wp2
        go_ret2
        exact ⟨ret_int2 (by rw [H.out.1, H.out.2]; exact ⟨rfl, rfl⟩), rfl⟩
      · have H : Hid (clN (a + b) = a + b ∧ clO (a + b) = 0) := cl_in _ (by unfold In; omega)
        go_enter Tryd.func132, Tryd.ntmps132
        go_wp2
        go_ret2
        exact ⟨ret_int2 (by rw [H.out.1, H.out.2]; exact ⟨rfl, rfl⟩), rfl⟩
    · have H : Hid (clN (a + b) = a + b ∧ clO (a + b) = 0) := cl_in _ (by unfold In; omega)
      go_enter Tryd.func132, Tryd.ntmps132
      go_wp2
      go_ret2
      exact ⟨ret_int2 (by rw [H.out.1, H.out.2]; exact ⟨rfl, rfl⟩), rfl⟩
end Go.Proofs.YtpdnnpnclgcpoaaDoor

