/- Rows of numbers; the nearest step below, or above, a number. -/
import Derived.Test.YtojakiiohbmlaaaIvD
import Derived.Deep.LoopGhost
import Derived.WalkSpells
namespace Go.Proofs.Ytojakiiohbmlaaa
open Go.RowKit Go.Iv
set_option linter.unusedSimpArgs false

/-- So many numbers at an address. -/
def Ints (w : World) (a : Option Addr) (zs : List Int) : Prop :=
  zs.length ≤ 1048576 ∧ (zs.length = 0 ∨ ∃ cb co, a = some ⟨cb, co, none⟩ ∧ ∀ i, (h : i < zs.length) → w.cell? ⟨cb, co + i, none⟩ = some (.int .i64 zs[i]))
theorem Ints.to {w w1 : World} {a : Option Addr} {zs : List Int} {B : Nat} (h : Ints w a zs) (hb : Below B w w1) (ha : ∀ x, a = some x → 0 < zs.length → x.block < B) : Ints w1 a zs := by
  refine ⟨h.1, ?_⟩
  rcases h.2 with h0 | ⟨cb, co, rfl, hc⟩
  · exact .inl h0
  · exact .inr ⟨cb, co, rfl, fun i hi => (hb.cell (by exact ha ⟨cb, co, none⟩ rfl (by omega))).trans (hc i hi)⟩
theorem Ints.lt {w : World} {a : Option Addr} {zs : List Int} (h : Ints w a zs) : ∀ x, a = some x → 0 < zs.length → x.block < w.heap.size := by
  intro x hx h0
  rcases h.2 with h1 | ⟨cb, co, rfl, hc⟩
  · omega
  · cases hx
    exact World.block_lt_of_cell? w _ (hc 0 h0)
theorem Ints.call {w w1 : World} {a : Option Addr} {zs : List Int} (h : Ints w a zs) (hb : Below w.heap.size w w1) : Ints w1 a zs := h.to hb h.lt

def dn (n : Int) (zs : List Int) : Int := zs.foldl (fun b s => if s ≤ n then mx b s else b) (-9223372036854775808)
def up (n : Int) (zs : List Int) : Int := zs.foldl (fun b s => if n ≤ s then mn b s else b) 9223372036854775807
theorem take_snoc {α : Type} (zs : List α) (k : Nat) (h : k < zs.length) : zs.take (k + 1) = zs.take k ++ [zs[k]] := List.take_succ_eq_append_getElem h
theorem dn_snoc (n : Int) (zs : List Int) (k : Nat) (h : k < zs.length) : dn n (zs.take (k + 1)) = if zs[k] ≤ n then mx (dn n (zs.take k)) zs[k] else dn n (zs.take k) := by
  rw [take_snoc zs k h]; unfold dn; rw [List.foldl_append]; rfl
theorem up_snoc (n : Int) (zs : List Int) (k : Nat) (h : k < zs.length) : up n (zs.take (k + 1)) = if n ≤ zs[k] then mn (up n (zs.take k)) zs[k] else up n (zs.take k) := by
  rw [take_snoc zs k h]; unfold up; rw [List.foldl_append]; rfl

set_option maxHeartbeats 400000 in
theorem stepDown_c (n : Int) (a : Option Addr) (cap : Nat) (zs : List Int) (w : World) (h : Ints w a zs) : Calls Try.prog 46 #[.int .i64 n, .slice a zs.length cap] w fun e w' => e = .returned (.int .i64 (dn n zs)) ∧ w' = w := by
  have hl := h.1
  obtain ⟨L, hL⟩ : ∃ L, L = zs.length := ⟨_, rfl⟩
  rw [← hL] at hl ⊢
  have HL := hide hL
  have HH := hide h
  clear h hL
  go_enter Try.func46, Try.ntmps46
  go_wp2
  go_loop [5, 10] (fun b i => ∃ k : Nat, k ≤ L ∧ i = .int .i64 k ∧ b = .int .i64 (dn n (zs.take k))) (fun _ i => L - (intOf i).toNat)
  case atStart => exact ⟨0, Nat.zero_le _, rfl, rfl⟩
  case round =>
    obtain ⟨k, hk, rfl, rfl⟩ := hrel
    by_cases hlt : k < L
    · have hk' : k < zs.length := by rw [← unhide HL]; exact hlt
      have HS := hide (dn_snoc n zs k hk')
      obtain ⟨s, hs⟩ : ∃ s, s = zs[k] := ⟨_, rfl⟩
      rcases (unhide HH).2 with h0 | ⟨cb, co, rfl, hc⟩
      · omega
      have c := hc k hk'
      rw [← hs] at c HS
      obtain ⟨D, hD⟩ : ∃ D, D = dn n (zs.take k) := ⟨_, rfl⟩
      rw [← hD] at HS ⊢
      have q := hmx D s
      clear hs hc hD
      go_wp2
      · go_round
        case rel => exact ⟨k + 1, by omega, by go_num, by rw [unhide HS, if_pos (by omega)]⟩
        case measure => simp [intOf]; omega
      · go_round
        case rel => exact ⟨k + 1, by omega, by go_num, by rw [unhide HS, if_neg (by omega)]⟩
        case measure => simp [intOf]; omega
    · go_wp2
      go_ret
      exact ⟨ret_int (by rw [List.take_of_length_le (by have := unhide HL; omega)]), rfl⟩
set_option maxHeartbeats 400000 in
theorem stepUp_c (n : Int) (a : Option Addr) (cap : Nat) (zs : List Int) (w : World) (h : Ints w a zs) : Calls Try.prog 47 #[.int .i64 n, .slice a zs.length cap] w fun e w' => e = .returned (.int .i64 (up n zs)) ∧ w' = w := by
  have hl := h.1
  obtain ⟨L, hL⟩ : ∃ L, L = zs.length := ⟨_, rfl⟩
  rw [← hL] at hl ⊢
  have HL := hide hL
  have HH := hide h
  clear h hL
  go_enter Try.func47, Try.ntmps47
  go_wp2
  go_loop [5, 10] (fun b i => ∃ k : Nat, k ≤ L ∧ i = .int .i64 k ∧ b = .int .i64 (up n (zs.take k))) (fun _ i => L - (intOf i).toNat)
  case atStart => exact ⟨0, Nat.zero_le _, rfl, rfl⟩
  case round =>
    obtain ⟨k, hk, rfl, rfl⟩ := hrel
    by_cases hlt : k < L
    · have hk' : k < zs.length := by rw [← unhide HL]; exact hlt
      have HS := hide (up_snoc n zs k hk')
      obtain ⟨s, hs⟩ : ∃ s, s = zs[k] := ⟨_, rfl⟩
      rcases (unhide HH).2 with h0 | ⟨cb, co, rfl, hc⟩
      · omega
      have c := hc k hk'
      rw [← hs] at c HS
      obtain ⟨D, hD⟩ : ∃ D, D = up n (zs.take k) := ⟨_, rfl⟩
      rw [← hD] at HS ⊢
      have q := hmn D s
      clear hs hc hD
      go_wp2
      · go_round
        case rel => exact ⟨k + 1, by omega, by go_num, by rw [unhide HS, if_pos (by omega)]⟩
        case measure => simp [intOf]; omega
      · go_round
        case rel => exact ⟨k + 1, by omega, by go_num, by rw [unhide HS, if_neg (by omega)]⟩
        case measure => simp [intOf]; omega
    · go_wp2
      go_ret
      exact ⟨ret_int (by rw [List.take_of_length_le (by have := unhide HL; omega)]), rfl⟩
end Go.Proofs.Ytojakiiohbmlaaa
