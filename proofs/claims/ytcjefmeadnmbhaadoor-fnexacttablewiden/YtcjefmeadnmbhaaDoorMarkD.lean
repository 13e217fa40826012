/- Marks of bounds and of declarations. -/
import Derived.Test.YtcjefmeadnmbhaaDoorMarkC
import Derived.Laws.BytesArg
namespace Go.Proofs.YtcjefmeadnmbhaaDoor
open Go.RowKit
set_option linter.unusedSimpArgs false
set_option linter.unusedVariables false

theorem C3.mid {u v : World} {b lo hi : Nat} {x y z : Value} (h : C3 u b x y z) (k : Mid lo hi u v) (ho : b < lo ∨ hi ≤ b) : C3 v b x y z :=
  ⟨(k.cell h.lt ho).trans h.1, (k.cell h.lt ho).trans h.2.1, (k.cell h.lt ho).trans h.2.2.1, fun o => (k.frozen h.lt ho).trans (h.2.2.2 o)⟩
/-- A row of intervals that may be written, in a block of lo .. hi - 1. -/
def RowW (w : World) (lo hi : Nat) (a : Option Addr) (n : Nat) : Prop := n = 0 ∨ ∃ g, a = some ⟨g, 0, none⟩ ∧ lo ≤ g ∧ g < hi ∧ Wr w g (n * 2)
/-- Marks lie in it. -/
def MkR (w : World) (lo hi : Nat) (a : Option Addr) (k : Int) (n : Nat) : Prop := n = 0 ∨ ∃ g, a = some ⟨g, 0, none⟩ ∧ lo ≤ g ∧ g < hi ∧ g < w.heap.size ∧ MkV w g k n
theorem RowW.mid {w w' : World} {lo hi l h n : Nat} {a : Option Addr} (r : RowW w lo hi a n) (k : Mid l h w w') (ho : hi ≤ l ∨ h ≤ lo) : RowW w' lo hi a n := by
  rcases r with r | ⟨g, e, h1, h2, h3⟩
  · exact .inl r
  · exact .inr ⟨g, e, h1, h2, h3.mid k (by omega)⟩
theorem MkR.mid {w w' : World} {lo hi l h n : Nat} {a : Option Addr} {q : Int} (r : MkR w lo hi a q n) (k : Mid l h w w') (ho : hi ≤ l ∨ h ≤ lo) : MkR w' lo hi a q n := by
  rcases r with r | ⟨g, e, h1, h2, h4, h3⟩
  · exact .inl r
  · exact .inr ⟨g, e, h1, h2, Nat.lt_of_lt_of_le h4 k.size, h3.mid k h4 (by omega)⟩
theorem RowW.call {w w' : World} {lo hi n : Nat} {a : Option Addr} (r : RowW w lo hi a n) (hb : Below w.heap.size w w') : RowW w' lo hi a n := r.mid (Mid.of (lo := 0) (hi := 0) hb) (.inr (Nat.zero_le _))
theorem MkR.call {w w' : World} {lo hi n : Nat} {a : Option Addr} {q : Int} (r : MkR w lo hi a q n) (hb : Below w.heap.size w w') : MkR w' lo hi a q n := r.mid (Mid.of (lo := 0) (hi := 0) hb) (.inr (Nat.zero_le _))
/-- Two rows lie in blocks of their own. -/
def Apart (a b : Option Addr) : Prop := ∀ x y, a = some x → b = some y → x.block ≠ y.block
theorem markIvR_c (a : Option Addr) (n c lo hi : Nat) (k : Int) (hk : 0 ≤ k ∧ k ≤ 1099511627776) (hn : n ≤ 1048576) (w : World) (h : RowW w lo hi a n) : Calls Tryd.prog 59 #[.slice a n c, .int .i64 k] w fun e w' => e = .returned (.int .i64 (k + 2 * n)) ∧ MkR w' lo hi a k n ∧ Mid lo hi w w' ∧ (∀ b m, RowW w lo hi b m → Apart a b → RowW w' lo hi b m) ∧ ∀ b q m, MkR w lo hi b q m → Apart a b → MkR w' lo hi b q m := by
  rcases h with h | ⟨g, rfl, h1, h2, h3⟩
  · subst h
    refine (markIv0_c a c k w).mono ?_
    rintro e w' ⟨rfl, rfl⟩
    exact ⟨by simp, .inl rfl, Mid.refl _ _ _, fun b m r _ => r, fun b q m r _ => r⟩
  · refine (markIv_c g n c k hk hn w h3).mono ?_
    rintro e w' ⟨rfl, m1, m2⟩
    refine ⟨rfl, .inr ⟨g, rfl, h1, h2, Nat.lt_of_lt_of_le h3.2.2 m2.size, m1⟩, m2.mono h1 h2, fun b m r hd => ?_, fun b q m r hd => ?_⟩
    · rcases r with r | ⟨g', rfl, q1, q2, q3⟩
      · exact .inl r
      · have := hd _ _ rfl rfl
        simp at this
        exact .inr ⟨g', rfl, q1, q2, q3.mid m2 (by omega)⟩
    · rcases r with r | ⟨g', rfl, q1, q2, q4, q3⟩
      · exact .inl r
      · have := hd _ _ rfl rfl
        simp at this
        exact .inr ⟨g', rfl, q1, q2, Nat.lt_of_lt_of_le q4 m2.size, q3.mid m2 q4 (by omega)⟩
theorem heldIvR_c (a : Option Addr) (n c lo hi : Nat) (k : Int) (hk : 0 ≤ k ∧ k ≤ 1099511627776) (hn : n ≤ 1048576) (w : World) (h : MkR w lo hi a k n) : Calls Tryd.prog 60 #[.slice a n c, .int .i64 k] w fun e w' => e = .returned (.int .i64 (k + 2 * n)) ∧ w' = w := by
  rcases h with h | ⟨g, rfl, h1, h2, h4, h3⟩
  · subst h
    refine (heldIv0_c a c k w).mono ?_
    rintro e w' ⟨rfl, rfl⟩
    exact ⟨by simp, rfl⟩
  · exact heldIv_c g n c k hk hn w h3
set_option maxRecDepth 100000 in
set_option maxHeartbeats 2000000 in
theorem markText_c (k : Int) (hk : 0 ≤ k ∧ k ≤ 1099511627776) (w : World) : Calls Tryd.prog 81 #[.int .i64 k] w fun e w' => ∃ s : ByteArray, e = .returned (.string s) ∧ Below w.heap.size w w' := by
  by_cases h0 : k ≤ 0
  · go_enter Tryd.func81, Tryd.ntmps81
    go_wp2
    go_ret
    exact ⟨_, rfl, Below.refl _ _⟩
  go_enter Tryd.func81, Tryd.ntmps81
  go_wp2
  go_loopw [0, 3] (fun kk s wr => ∃ (n : Int) (t : ByteArray) (m : Nat), kk = .int .i64 n ∧ s = .string t ∧ 0 ≤ n ∧ n ≤ 1099511627776 ∧ n < 10 ^ m ∧ m ≤ 20 ∧ t.size + m ≤ 20 ∧ Below w.heap.size w wr) (fun kk _ _ => (intOf kk).toNat)
  case atStart => exact ⟨k, _, 20, rfl, rfl, by omega, by omega, by omega, by omega, Nat.le_refl 20, Below.refl _ _⟩
  case round =>
    obtain ⟨n, t, m, rfl, rfl, n0, n3, n1, m1, m2, hb⟩ := hrel
    have HB := hide hb
    have HN := hide (And.intro n1 (And.intro m1 m2))
    have n2 : n ≤ 1099511627776 := n3
    have ts : t.size ≤ 20 := by omega
    have ts' : (t.size : Int) ≤ 20 := by omega
    clear hb n1 m1 m2 n3
    by_cases hn : 0 < n
    · have hcv := run_convert_bytes_arg (P := Tryd.prog) (wr.alloc (Obj.cells #[.int .u8 (48 + n % 10)] 5)) 132 5 Tryd.underlying132 Tryd.underlying5 wr.heap.size 0 1 1 [48 + n % 10] rfl (fun i hi => by cases i with | zero => simp | succ j => omega) 9 Tryd.underlying9
      have hsz := strOfNums_size [48 + n % 10]
      generalize strOfNums [48 + n % 10] = q at hcv hsz
      simp at hsz
      go_wp2
      obtain ⟨n1, m1, m2⟩ := unhide HN
      cases m with
      | zero => simp at n1; omega
      | succ m' =>
        have n5 : n / 10 < 10 ^ m' := Int.ediv_lt_of_lt_mul (by decide) (by rw [Int.pow_succ] at n1; exact n1)
        exact ⟨⟨n / 10, q ++ t, m', rfl, rfl, by omega, by omega, n5, by omega, by rw [ByteArray.size_append]; omega, (unhide HB).alloc (unhide HB).size _⟩, by simp [intOf]; omega⟩
    · go_wp2
      go_ret
      exact ⟨⟨(⟨#[109]⟩ : ByteArray) ++ t, rfl⟩, unhide HB⟩
set_option maxHeartbeats 2000000 in
theorem markStr_c (g n c : Nat) (k : Int) (hk : 0 ≤ k ∧ k ≤ 549755813888) (hn : n ≤ 1048576) (w : World) (h : Wr w g n) : Calls Tryd.prog 57 #[.slice (some ⟨g, 0, none⟩) n c, .int .i64 k] w fun e w' => e = .returned (.int .i64 (k + n)) ∧ Mid g (g + 1) w w' := by
  have H0 := hide h
  have hn' : (n : Int) ≤ 1048576 := by omega
  clear h
  go_enter Tryd.func57, Tryd.ntmps57
  go_wp2
  go_loopw [1, 5] (fun kk i wr => ∃ j : Nat, j ≤ n ∧ kk = .int .i64 (k + j) ∧ i = .int .i64 j ∧ Wr wr g n ∧ Mid g (g + 1) w wr) (fun _ i _ => n - (intOf i).toNat)
  case atStart => exact ⟨0, Nat.zero_le _, by simp, rfl, unhide H0, Mid.refl _ _ _⟩
  case round =>
    obtain ⟨j, hj, rfl, rfl, hw, hd⟩ := hrel
    have HW := hide hw
    have HD := hide hd
    by_cases hlt : j < n
    · have e1 : wrap64 (k + ↑j + 1) = k + ↑j + 1 := by unfold wrap64; omega
      clear hw hd
      go_wp2_with fail
      refine (markText_c _ (by omega) _).mono ?_
      rintro e u1 ⟨s, rfl, kb⟩
      have HW := hide ((unhide HW).call kb)
      have HD := hide ((unhide HD).trans (Mid.of kb))
      obtain ⟨v0, h0⟩ := (unhide HW).1 j hlt
      have f0 := (unhide HW).2.1 j
      clear kb
      go_wp2
      go_roundw
      case rel => exact ⟨j + 1, by omega, by first | rfl | (congr 1; omega) | (simp; omega), by go_num, (unhide HW).set _ hlt, (unhide HD).set (Nat.le_refl _) (by omega) _⟩
      case measure => simp [intOf]; omega
    · obtain rfl : n = j := by omega
      clear hw hd
      go_wp2
      go_ret
      exact ⟨rfl, unhide HD⟩
set_option maxHeartbeats 2000000 in
theorem markArr_c (g n c : Nat) (k : Int) (hk : 0 ≤ k ∧ k ≤ 549755813888) (hn : n ≤ 1048576) (w : World) (h : Wr w g (n * 2)) : Calls Tryd.prog 58 #[.slice (some ⟨g, 0, none⟩) n c, .int .i64 k] w fun e w' => e = .returned (.int .i64 (k + 2 * n)) ∧ Mid g (g + 1) w w' := by
  have H0 := hide h
  have hn' : (n : Int) ≤ 1048576 := by omega
  clear h
  go_enter Tryd.func58, Tryd.ntmps58
  go_wp2
  go_loopw [1, 5] (fun kk i wr => ∃ j : Nat, j ≤ n ∧ kk = .int .i64 (k + 2 * j) ∧ i = .int .i64 j ∧ Wr wr g (n * 2) ∧ Mid g (g + 1) w wr) (fun _ i _ => n - (intOf i).toNat)
  case atStart => exact ⟨0, Nat.zero_le _, by simp, rfl, unhide H0, Mid.refl _ _ _⟩
  case round =>
    obtain ⟨j, hj, rfl, rfl, hw, hd⟩ := hrel
    have HW := hide hw
    have HD := hide hd
    by_cases hlt : j < n
    · have e1 : wrap64 (k + 2 * ↑j + 1) = k + 2 * ↑j + 1 := by unfold wrap64; omega
      have e2 : wrap64 (k + 2 * ↑j + 1 + 1) = k + 2 * ↑j + 1 + 1 := by unfold wrap64; omega
      clear hw hd
      go_wp2_with fail
      refine (markText_c _ (by omega) _).mono ?_
      rintro e u1 ⟨s, rfl, kb⟩
      have HW := hide ((unhide HW).call kb)
      have HD := hide ((unhide HD).trans (Mid.of kb))
      obtain ⟨v0, h0⟩ := (unhide HW).1 (j * 2) (by omega)
      obtain ⟨v1, h1⟩ := (unhide HW).1 (j * 2 + 1) (by omega)
      have f0 := (unhide HW).2.1 (j * 2)
      have f1 := (unhide HW).2.1 (j * 2 + 1)
      clear kb
      go_wp2
      go_roundw
      case rel => exact ⟨j + 1, by omega, by first | rfl | (congr 1; omega) | (simp; omega), by go_num, ((unhide HW).set _ (by omega)).set _ (by omega), ((unhide HD).set (Nat.le_refl _) (by omega) _).set (Nat.le_refl _) (by omega) _⟩
      case measure => simp [intOf]; omega
    · obtain rfl : n = j := by omega
      clear hw hd
      go_wp2
      go_ret
      exact ⟨rfl, unhide HD⟩
set_option maxHeartbeats 2000000 in
theorem markDecl_c (g1 g2 g3 n m l c d e lo hi : Nat) (k : Int) (hk : 0 ≤ k ∧ k ≤ 1048576) (hn : n ≤ 1048576) (hm : m ≤ 1048576) (hl : l ≤ 1048576) (w : World) (hh : hi ≤ w.heap.size) (b1 : lo ≤ g1 ∧ g1 < g2 ∧ g2 < g3 ∧ g3 < hi) (h1 : Wr w g1 n) (h2 : Wr w g2 m) (h3 : Wr w g3 (l * 2)) :
    Calls Tryd.prog 22 #[.agg #[.slice (some ⟨g1, 0, none⟩) n c, .slice (some ⟨g2, 0, none⟩) m d, .slice (some ⟨g3, 0, none⟩) l e], .int .i64 k] w fun ee w' => ee = .returned (.int .i64 (k + n + m + 2 * l)) ∧ Mid lo hi w w' := by
  have HT := hide (C3.new w (.slice (some ⟨g1, 0, none⟩) n c) (.slice (some ⟨g2, 0, none⟩) m d) (.slice (some ⟨g3, 0, none⟩) l e) 40)
  have kb := (Below.refl _ w).alloc (Nat.le_refl _) (Obj.cells #[.slice (some ⟨g1, 0, none⟩) n c, .slice (some ⟨g2, 0, none⟩) m d, .slice (some ⟨g3, 0, none⟩) l e] 40)
  have H1 := hide (h1.call kb)
  have H2 := hide (h2.call kb)
  have H3 := hide (h3.call kb)
  have HK : Hid (Mid lo hi w (w.alloc (Obj.cells #[.slice (some ⟨g1, 0, none⟩) n c, .slice (some ⟨g2, 0, none⟩) m d, .slice (some ⟨g3, 0, none⟩) l e] 40))) := Mid.of kb
  have BB := hide b1
  clear h1 h2 h3 kb b1
  go_enter Tryd.func22, Tryd.ntmps22
  go_upto_region 1 with fail
  generalize w.alloc (Obj.cells #[.slice (some ⟨g1, 0, none⟩) n c, .slice (some ⟨g2, 0, none⟩) m d, .slice (some ⟨g3, 0, none⟩) l e] 40) = u at HT H1 H2 H3 HK ⊢
  have t0 := (unhide HT).1
  go_wp2_with fail
  refine (markStr_c g1 n c k (by omega) hn _ (unhide H1)).mono ?_
  rintro e u1 ⟨rfl, m2⟩
  have H2 := hide ((unhide H2).mid m2 (by have := unhide BB; omega))
  have H3 := hide ((unhide H3).mid m2 (by have := unhide BB; omega))
  have HT := hide ((unhide HT).mid m2 (by have := unhide BB; omega))
  have HK := hide ((unhide HK).trans (m2.mono (by have := unhide BB; omega) (by have := unhide BB; omega)))
  clear m2 t0
  have t1 := (unhide HT).2.1
  go_wp2_with fail
  refine (markStr_c g2 m d (k + n) (by omega) hm _ (unhide H2)).mono ?_
  rintro e u2 ⟨rfl, m2⟩
  have H3 := hide ((unhide H3).mid m2 (by have := unhide BB; omega))
  have HT := hide ((unhide HT).mid m2 (by have := unhide BB; omega))
  have HK := hide ((unhide HK).trans (m2.mono (by have := unhide BB; omega) (by have := unhide BB; omega)))
  clear m2 t1
  have t2 := (unhide HT).2.2.1
  go_wp2_with fail
  refine (markArr_c g3 l _ (k + n + m) (by omega) hl _ (unhide H3)).mono ?_
  rintro e u3 ⟨rfl, m2⟩
  have HK := hide ((unhide HK).trans (m2.mono (by have := unhide BB; omega) (by have := unhide BB; omega)))
  clear m2 t2
  go_wp2
  go_ret
  exact ⟨rfl, unhide HK⟩
end Go.Proofs.YtcjefmeadnmbhaaDoor
