/- How much of a size is left behind a row of texts. -/
import Derived.Test.YthldhjifnpfmiaaDoorStrE
namespace Go.Proofs.YthldhjifnpfmiaaDoor
open Go.RowKit
set_option linter.unusedSimpArgs false

def szL : List ByteArray → Int → Int
  | [], l => l
  | x :: xs, l => if l - x.size < 0 then -1 else szL xs (l - x.size)
def szS (xs : List ByteArray) (l : Int) : Int := if l - xs.length < 0 then -1 else szL xs (l - xs.length)
/-- A row of texts of any length that a machine has. -/
def StrsA (w : World) (a : Option Addr) (xs : List ByteArray) : Prop :=
  xs.length ≤ 9223372036854775807 ∧ (∀ i, (h : i < xs.length) → xs[i].size ≤ 9223372036854775807) ∧ (xs.length = 0 ∨ ∃ cb co, a = some ⟨cb, co, none⟩ ∧ ∀ i, (h : i < xs.length) → w.cell? ⟨cb, co + i, none⟩ = some (.string xs[i]))
theorem szL_le (xs : List ByteArray) : ∀ l, 0 ≤ l → szL xs l ≤ l ∧ -1 ≤ szL xs l := by
  induction xs with
  | nil => intro l h; exact ⟨Int.le_refl _, by show -1 ≤ l; omega⟩
  | cons x xs ih =>
    intro l h
    unfold szL
    split
    · omega
    · have := ih (l - x.size) (by omega)
      omega
theorem szL_drop (xs : List ByteArray) (k : Nat) (h : k < xs.length) (l : Int) : szL (xs.drop k) l = if l - xs[k].size < 0 then -1 else szL (xs.drop (k + 1)) (l - xs[k].size) := by
  rw [List.drop_eq_getElem_cons h]; rfl
set_option maxHeartbeats 1000000 in
theorem szStringS_c (a : Option Addr) (cap : Nat) (xs : List ByteArray) (left : Int) (h0 : 0 ≤ left) (h1 : left ≤ 1048576) (w : World) (h : StrsA w a xs) : Calls Tryd.prog 12 #[.slice a xs.length cap, .int .i64 left] w fun e w' => e = .returned (.int .i64 (szS xs left)) ∧ w' = w := by
  have hl := h.1
  obtain ⟨L, hL⟩ : ∃ L, L = xs.length := ⟨_, rfl⟩
  have HZ := hide (show szS xs left = if left - L < 0 then -1 else szL xs (left - L) by rw [hL]; rfl)
  rw [← hL] at hl ⊢
  have HL := hide hL
  have HH := hide h
  have hl' : (L : Int) ≤ 9223372036854775807 := by omega
  clear h hL
  by_cases hn : left - L < 0
  · rw [unhide HZ, if_pos hn]
    go_enter Tryd.func12, Tryd.ntmps12
    go_wp2
    go_ret
    exact ⟨rfl, rfl⟩
  · rw [unhide HZ, if_neg hn]
    clear HZ
    go_enter Tryd.func12, Tryd.ntmps12
    go_wp2
    go_loop [1, 5] (fun l i => ∃ (k : Nat) (m : Int), k ≤ L ∧ 0 ≤ m ∧ m ≤ 1048576 ∧ i = .int .i64 k ∧ l = .int .i64 m ∧ szL (xs.drop k) m = szL xs (left - L)) (fun _ i => L - (intOf i).toNat)
    case atStart => exact ⟨0, left - L, Nat.zero_le _, by omega, by omega, rfl, rfl, by rw [List.drop_zero]⟩
    case round =>
      obtain ⟨k, m, hk, m0, m1, rfl, rfl, he⟩ := hrel
      have HE := hide he
      clear he
      by_cases hlt : k < L
      · have hk' : k < xs.length := by rw [← unhide HL]; exact hlt
        rcases (unhide HH).2.2 with h0 | ⟨cb, co, rfl, hc⟩
        · omega
        have c := hc k hk'
        have sz := (unhide HH).2.1 k hk'
        have HD := hide (szL_drop xs k hk' m)
        clear hc
        generalize xs[k] = x at c sz HD
        have sz' : (x.size : Int) ≤ 9223372036854775807 := by omega
        by_cases hm : m - x.size < 0
        · have HX := hide (show szL xs (left - L) = -1 by rw [← unhide HE, unhide HD, if_pos hm])
          go_wp2
          go_ret
          exact ⟨by rw [unhide HX]; rfl, rfl⟩
        · have HX := hide (show szL (xs.drop (k + 1)) (m - x.size) = szL xs (left - L) by rw [← unhide HE, unhide HD, if_neg hm])
          go_wp2
          go_round
          case rel => exact ⟨k + 1, m - x.size, by omega, by omega, by omega, by go_num, rfl, unhide HX⟩
          case measure => simp [intOf]; omega
      · have HX := hide (show szL xs (left - L) = m by rw [← unhide HE, List.drop_of_length_le (by have := unhide HL; omega)]; rfl)
        go_wp2
        go_ret
        exact ⟨by rw [unhide HX]; rfl, rfl⟩
end Go.Proofs.YthldhjifnpfmiaaDoor
