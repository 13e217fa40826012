/- Numbers in decimal. -/
import Derived.Test.YtpdnnpnclgcpoaaDoorDoZ
import Derived.Test.YtpdnnpnclgcpoaaDoorShf
import Derived.Laws.BytesArg
import Derived.Lib.ItoaNum
import Derived.Lib.ItoaLen
import Derived.Lib.AppendIntMem
import Derived.Deep.DeepCutAuto
namespace Go.Proofs.YtpdnnpnclgcpoaaDoor
open Go.RowKit
set_option linter.unusedSimpArgs false
set_option linter.unusedVariables false

def dgB (n : Nat) : ByteArray := ⟨(Lib.decDigits n).toArray⟩
def itB (n : Int) : ByteArray := ⟨(Lib.itoa n).toArray⟩
theorem itB_size (n : Int) (h0 : -9223372036854775808 ≤ n) (h1 : n ≤ 9223372036854775807) : (itB n).size ≤ 21 := Lib.itoa_length_le n h0 h1
theorem dgB_step (k : Nat) (h : ¬ k < 10) (q : ByteArray) : dgB k ++ q = dgB (k / 10) ++ (strOfNums [48 + (k : Int) % 10] ++ q) := by
  have e : ((48 : Int) + (k : Int) % 10).toNat = 48 + k % 10 := by omega
  unfold dgB
  rw [Lib.decDigits, dif_neg h]
  apply ByteArray.ext
  simp [strOfNums, e, ByteArray.data_append]
theorem dgB_last (k : Nat) (h : k < 10) (q : ByteArray) : dgB k ++ q = strOfNums [48 + (k : Int)] ++ q := by
  have e : ((48 : Int) + (k : Int)).toNat = 48 + k := by omega
  unfold dgB
  rw [Lib.decDigits, dif_pos h]
  apply ByteArray.ext
  simp [strOfNums, e, ByteArray.data_append]
theorem itB_pos (n : Int) (h : 0 ≤ n) : itB n = dgB n.natAbs := by
  unfold itB dgB Lib.itoa
  rw [if_neg (by omega)]
  have e : n.toNat = n.natAbs := by omega
  rw [e]
theorem itB_neg (n : Int) (h : n < 0) : itB n = ⟨#[45]⟩ ++ dgB n.natAbs := by
  unfold itB dgB Lib.itoa
  rw [if_pos h]
  apply ByteArray.ext
  simp [ByteArray.data_append]
theorem nil_app (q : ByteArray) : (⟨#[]⟩ : ByteArray) ++ q = q := by apply ByteArray.ext; simp [ByteArray.data_append]
theorem app_nil (q : ByteArray) : q ++ (⟨#[]⟩ : ByteArray) = q := by apply ByteArray.ext; simp [ByteArray.data_append]
theorem ten_pow (j : Nat) (k : Nat) (hk : 10 ≤ k) (hl : k < 10 ^ (20 - j)) : j ≤ 18 ∧ k / 10 < 10 ^ (20 - (j + 1)) := by
  have h1 : j ≤ 18 := by
    rcases Nat.lt_or_ge 18 j with q | q
    · have : 20 - j ≤ 1 := by omega
      have : 10 ^ (20 - j) ≤ 10 ^ 1 := Nat.pow_le_pow_right (by omega) this
      omega
    · exact q
  refine ⟨h1, ?_⟩
  have e : 20 - j = (20 - (j + 1)) + 1 := by omega
  rw [e, Nat.pow_succ] at hl
  omega
theorem one_size (x : Int) : (strOfNums [x]).size = 1 := by have := strOfNums_size [x]; simpa using this
/-- What is left of a number's digits. -/
def DgI (N k : Nat) (q : ByteArray) : Prop := dgB N = dgB k ++ q ∧ k < 10 ^ (20 - q.size) ∧ q.size ≤ 19 ∧ k ≤ N
theorem DgI.start (N : Nat) (h : N < 10 ^ 20) : DgI N N ⟨#[]⟩ := ⟨(app_nil _).symm, h, Nat.zero_le _, Nat.le_refl _⟩
theorem DgI.step {N k : Nat} {q : ByteArray} (h : DgI N k q) (hk : ¬ k < 10) : DgI N (k / 10) (strOfNums [48 + (k : Int) % 10] ++ q) := by
  obtain ⟨h1, h2, h3, h4⟩ := h
  obtain ⟨h5, h6⟩ := ten_pow q.size k (by omega) h2
  have e : (strOfNums [48 + (k : Int) % 10] ++ q).size = q.size + 1 := by rw [ByteArray.size_append, one_size]; omega
  exact ⟨by rw [h1, dgB_step k hk], by rw [e]; exact h6, by rw [e]; omega, by omega⟩
theorem DgI.last {N k : Nat} {q : ByteArray} (h : DgI N k q) (hk : k < 10) : dgB N = strOfNums [48 + (k : Int)] ++ q := by rw [h.1, dgB_last k hk]
set_option maxRecDepth 20000 in
set_option maxHeartbeats 4000000 in
theorem l1DecG_c (n : Int) (h0 : -9223372036854775808 ≤ n) (h1 : n ≤ 9223372036854775807) (w : World) : Calls Tryd.prog 72 #[.int .i64 n] w fun e w' => e = .returned (.string (itB n)) ∧ Below w.heap.size w w' := by
  obtain ⟨N, hN⟩ : ∃ N : Nat, N = n.natAbs := ⟨_, rfl⟩
  have h10 : (10 : Nat) ^ 20 = 100000000000000000000 := by decide
  have hN20 : N < 10 ^ 20 := by rw [hN, h10]; omega
  have hN64 := hide (show (N : Int) ≤ 9223372036854775808 by omega)
  obtain ⟨V, hV⟩ : ∃ V, V = itB n := ⟨_, rfl⟩
  rw [← hV]
  have HS := hide (DgI.start N hN20)
  by_cases hneg : n < 0
  · have HV := hide (show V = ⟨#[45]⟩ ++ dgB N by rw [hV, itB_neg n hneg, hN])
    have HE := hide (show IntKind.u64.wrap (-IntKind.u64.wrap n) = (N : Int) by rw [IntKind.wrap_u64, IntKind.wrap_u64]; omega)
    clear hN20 hV hN h10
    go_enter Tryd.func72, Tryd.ntmps72
    go_wp2
    go_loopw [3, 4] (fun m s wr => ∃ (k : Nat) (q : ByteArray), m = .int .u64 (k : Int) ∧ s = .string q ∧ Hid (DgI N k q) ∧ Below w.heap.size w wr) (fun m _ _ => (intOf m).toNat)
    case atStart => exact ⟨N, _, by first | rw [unhide HE] | rfl, rfl, HS, Below.refl _ _⟩
    case round =>
      obtain ⟨k, q, rfl, rfl, HD, hb⟩ := hrel
      have HB := hide hb
      have hk64 : (k : Int) ≤ 9223372036854775808 := by have := (unhide HD).2.2.2; have := unhide hN64; omega
      have hq : (q.size : Int) ≤ 19 := by have := (unhide HD).2.2.1; omega
      clear hb hN64
      by_cases hk : k < 10
      · have hk' : (k : Int) < 10 := by omega
        have HL := hide ((unhide HD).last hk)
        have hcv := run_convert_bytes_arg (P := Tryd.prog) (wr.alloc (Obj.cells #[.int .u8 (48 + (k : Int))] 5)) 22 5 Tryd.underlying22 Tryd.underlying5 wr.heap.size 0 1 1 [48 + (k : Int)] rfl (fun i hi => by cases i with | zero => simp | succ j => omega) 9 Tryd.underlying9
        have hsz := one_size (48 + (k : Int))
        generalize strOfNums [48 + (k : Int)] = r at hcv hsz HL
        have hsz' : (r.size : Int) = 1 := by omega
        have hn : ¬ (9223372036854775807 < r.size + q.size) := by omega
        have hn2 : ¬ (9223372036854775807 < 1 + (r ++ q).size) := by rw [ByteArray.size_append]; omega
        go_wp2
        go_ret
        exact ⟨by rw [unhide HV, unhide HL]; rfl, (unhide HB).alloc (unhide HB).size _⟩
      · have hk' : (10 : Int) ≤ (k : Int) := by omega
        have HN := hide ((unhide HD).step hk)
        have hcv := run_convert_bytes_arg (P := Tryd.prog) (wr.alloc (Obj.cells #[.int .u8 (48 + (k : Int) % 10)] 5)) 22 5 Tryd.underlying22 Tryd.underlying5 wr.heap.size 0 1 1 [48 + (k : Int) % 10] rfl (fun i hi => by cases i with | zero => simp | succ j => omega) 9 Tryd.underlying9
        have hsz := one_size (48 + (k : Int) % 10)
        have e3 : 0 ≤ (k : Int) % 10 := by omega
        have e4 : (k : Int) % 10 < 10 := by omega
        generalize strOfNums [48 + (k : Int) % 10] = r at hcv hsz HN
        have hn : ¬ (9223372036854775807 < r.size + q.size) := by omega
        go_wp2
        exact ⟨⟨k / 10, _, by first | rfl | simp, rfl, HN, (unhide HB).alloc (unhide HB).size _⟩, by simp [intOf]; omega⟩
  · have hpos : 0 ≤ n := by omega
    have HV := hide (show V = dgB N by rw [hV, itB_pos n hpos, hN])
    obtain rfl : n = (N : Int) := by omega
    have HE := hide (rfl : (N : Int) = N)
    clear hN20 hV hN h10 hneg
    go_enter Tryd.func72, Tryd.ntmps72
    go_wp2
    go_loopw [3, 4] (fun m s wr => ∃ (k : Nat) (q : ByteArray), m = .int .u64 (k : Int) ∧ s = .string q ∧ Hid (DgI N k q) ∧ Below w.heap.size w wr) (fun m _ _ => (intOf m).toNat)
    case atStart => exact ⟨N, _, by first | rw [unhide HE] | rfl, rfl, HS, Below.refl _ _⟩
    case round =>
      obtain ⟨k, q, rfl, rfl, HD, hb⟩ := hrel
      have HB := hide hb
      have hk64 : (k : Int) ≤ 9223372036854775808 := by have := (unhide HD).2.2.2; have := unhide hN64; omega
      have hq : (q.size : Int) ≤ 19 := by have := (unhide HD).2.2.1; omega
      clear hb hN64
      by_cases hk : k < 10
      · have hk' : (k : Int) < 10 := by omega
        have HL := hide ((unhide HD).last hk)
        have hcv := run_convert_bytes_arg (P := Tryd.prog) (wr.alloc (Obj.cells #[.int .u8 (48 + (k : Int))] 5)) 22 5 Tryd.underlying22 Tryd.underlying5 wr.heap.size 0 1 1 [48 + (k : Int)] rfl (fun i hi => by cases i with | zero => simp | succ j => omega) 9 Tryd.underlying9
        have hsz := one_size (48 + (k : Int))
        generalize strOfNums [48 + (k : Int)] = r at hcv hsz HL
        have hsz' : (r.size : Int) = 1 := by omega
        have hn : ¬ (9223372036854775807 < r.size + q.size) := by omega
        have hn2 : ¬ (9223372036854775807 < 1 + (r ++ q).size) := by rw [ByteArray.size_append]; omega
        go_wp2
        go_ret
        exact ⟨by rw [unhide HV, unhide HL]; rfl, (unhide HB).alloc (unhide HB).size _⟩
      · have hk' : (10 : Int) ≤ (k : Int) := by omega
        have HN := hide ((unhide HD).step hk)
        have hcv := run_convert_bytes_arg (P := Tryd.prog) (wr.alloc (Obj.cells #[.int .u8 (48 + (k : Int) % 10)] 5)) 22 5 Tryd.underlying22 Tryd.underlying5 wr.heap.size 0 1 1 [48 + (k : Int) % 10] rfl (fun i hi => by cases i with | zero => simp | succ j => omega) 9 Tryd.underlying9
        have hsz := one_size (48 + (k : Int) % 10)
        have e3 : 0 ≤ (k : Int) % 10 := by omega
        have e4 : (k : Int) % 10 < 10 := by omega
        generalize strOfNums [48 + (k : Int) % 10] = r at hcv hsz HN
        have hn : ¬ (9223372036854775807 < r.size + q.size) := by omega
        go_wp2
        exact ⟨⟨k / 10, _, by first | rfl | simp, rfl, HN, (unhide HB).alloc (unhide HB).size _⟩, by simp [intOf]; omega⟩
/-- The table that strconv looks into. -/
@[reducible] def P10 (w : World) : Prop := Lib.TabIs Tryd.prog w "internal/strconv.uint64pow10" .u64 Lib.pow10Tab
theorem P10.call {w w' : World} (h : P10 w) (hb : Below w.heap.size w w') : P10 w' := (Lib.tabBelow_of_tabIs h).on hb |>.here
theorem decimalG_c (n : Int) (h0 : -9223372036854775808 ≤ n) (h1 : n ≤ 9223372036854775807) (w : World) (hp : P10 w) : Calls Tryd.prog 67 #[.int .i64 n] w fun e w' => e = .returned (.string (itB n)) ∧ Below w.heap.size w w' := by
  have HP := hide hp
  clear hp
  go_enter Tryd.func67, Tryd.ntmps67
  go_wp2_with fail
  refine (Tryd.strconv_FormatInt_10 n h0 h1 w (unhide HP)).mono ?_
  rintro e w1 ⟨rfl, k, os, hw⟩
  have HB := hide (show Below w.heap.size w w1 by rw [hw]; exact Lib.below_grow w.heap.size w (Nat.le_refl _) k os)
  clear hw
  go_wp2
  go_ret
  exact ⟨rfl, unhide HB⟩
/-- An interval's text. -/
def ivT (p : Int × Int) : ByteArray := itB p.1 ++ (⟨#[46, 46]⟩ : ByteArray) ++ itB p.2
theorem ivT_size (p : Int × Int) (h : (-9223372036854775808 ≤ p.1 ∧ p.1 ≤ 9223372036854775807) ∧ (-9223372036854775808 ≤ p.2 ∧ p.2 ≤ 9223372036854775807)) : (ivT p).size ≤ 44 := by
  have h1 := itB_size p.1 h.1.1 h.1.2
  have h2 := itB_size p.2 h.2.1 h.2.2
  unfold ivT
  rw [ByteArray.size_append, ByteArray.size_append]
  have : (⟨#[46, 46]⟩ : ByteArray).size = 2 := rfl
  omega
set_option maxRecDepth 20000 in
set_option maxHeartbeats 4000000 in
theorem l13Iv_c (l g : Int) (h : (-9223372036854775808 ≤ l ∧ l ≤ 9223372036854775807) ∧ (-9223372036854775808 ≤ g ∧ g ≤ 9223372036854775807)) (w : World) : Calls Tryd.prog 110 #[.agg #[.int .i64 l, .int .i64 g]] w fun e w' => e = .returned (.string (ivT (l, g))) ∧ Below w.heap.size w w' := by
  obtain ⟨V, hV⟩ : ∃ V, V = ivT (l, g) := ⟨_, rfl⟩
  rw [← hV]
  have s1 := itB_size l h.1.1 h.1.2
  have s2 := itB_size g h.2.1 h.2.2
  have HT := hide (show V = itB l ++ (⟨#[46, 46]⟩ : ByteArray) ++ itB g from hV)
  have k1 : ∀ w, Calls Tryd.prog 72 #[.int .i64 l] w fun e w' => e = .returned (.string (itB l)) ∧ Below w.heap.size w w' := fun w => l1DecG_c l h.1.1 h.1.2 w
  have k2 : ∀ w, Calls Tryd.prog 72 #[.int .i64 g] w fun e w' => e = .returned (.string (itB g)) ∧ Below w.heap.size w w' := fun w => l1DecG_c g h.2.1 h.2.2 w
  generalize itB l = X at s1 HT k1
  generalize itB g = Y at s2 HT k2
  have K1 := hide k1
  have K2 := hide k2
  have n1 : ¬ (9223372036854775807 < X.size + 2) := by omega
  have n2 : ¬ (9223372036854775807 < X.size + 2 + Y.size) := by omega
  have c0 : (w.alloc (Obj.cells #[.int .i64 l, .int .i64 g] 81)).cell? ⟨w.heap.size, 0, none⟩ = some (.int .i64 l) := by simp [go_sem]
  have c1 : (w.alloc (Obj.cells #[.int .i64 l, .int .i64 g] 81)).cell? ⟨w.heap.size, 1, none⟩ = some (.int .i64 g) := by simp [go_sem]
  have HB := hide ((Below.refl w.heap.size w).alloc (Nat.le_refl _) (Obj.cells #[.int .i64 l, .int .i64 g] 81))
  obtain ⟨ab, hab⟩ : ∃ x, x = w.heap.size := ⟨_, rfl⟩
  obtain ⟨wq, hwq⟩ : ∃ z, z = w.alloc (Obj.cells #[.int .i64 l, .int .i64 g] 81) := ⟨_, rfl⟩
  rw [← hab, ← hwq] at c0 c1
  rw [← hwq] at HB
  have HQ := hide (And.intro hab hwq)
  clear hV k1 k2 h hab hwq
  go_enter Tryd.func110, Tryd.ntmps110
  go_upto_region 1 with fail
  rw [← (unhide HQ).2, ← (unhide HQ).1]
  clear HQ
  have hh : H2 wq ⟨ab, 0, none⟩ ⟨ab, 1, none⟩ (.int .i64 l) (.int .i64 g) wq := ⟨c0, c1, Below.refl _ _⟩
  clear c0 c1
  go_region_held3 (H2 wq ⟨ab, 0, none⟩ ⟨ab, 1, none⟩ (.int .i64 l) (.int .i64 g))
    (first | exact H2.drew (by assumption) | exact hq2 | exact hq)
    (first
      | (go_at_call 72; have hq0 := hq; refine ((unhide K2) _).mono ?_; rintro e u2 ⟨rfl, hb2⟩; have hq2 := H2.call hb2 hq)
      | (go_at_call 72; refine ((unhide K1) _).mono ?_; rintro e u1 ⟨rfl, hb1⟩; have hq := H2.call hb1 (H2.drew hh)))
  have HD := hide ((unhide HB).trans (hq2.2.2.mono (unhide HB).size))
  rename_i hHeld
  clear hHeld hh hq hq2 hb1 hb2 HB K1 K2
  go_wp2
  go_ret
  exact ⟨by rw [unhide HT]; rfl, unhide HD⟩
end Go.Proofs.YtpdnnpnclgcpoaaDoor
