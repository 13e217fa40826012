/- How much of a size is left behind rows of rows of numbers. -/
import Derived.Test.YtcceeejmppamdaaDoorStoF
namespace Go.Proofs.YtcceeejmppamdaaDoor
open Go.RowKit
set_option linter.unusedSimpArgs false

def szN : List Nat → Int → Int
  | [], l => l
  | n :: ns, l => if l - n < 0 then -1 else szN ns (l - n)
theorem szN_drop (xs : List Nat) (k : Nat) (h : k < xs.length) (l : Int) : szN (xs.drop k) l = if l - xs[k] < 0 then -1 else szN (xs.drop (k + 1)) (l - xs[k]) := by
  rw [List.drop_eq_getElem_cons h]; rfl
def szM (xss : List (List Int)) (l : Int) : Int := if l - xss.length < 0 then -1 else szN (xss.map List.length) (l - xss.length)
/-- Rows of numbers of any length that a machine has. -/
def MatsA (w : World) (a : Option Addr) (xss : List (List Int)) : Prop :=
  xss.length ≤ 9223372036854775807 ∧ (∀ i, (h : i < xss.length) → xss[i].length ≤ 9223372036854775807) ∧ (xss.length = 0 ∨ ∃ cb co, a = some ⟨cb, co, none⟩ ∧ ∀ i, (h : i < xss.length) → ∃ b c, w.cell? ⟨cb, co + i, none⟩ = some (.slice b xss[i].length c) ∧ (xss[i].length = 0 ∨ ∃ db d, b = some ⟨db, d, none⟩ ∧ ∀ j, (h2 : j < xss[i].length) → w.cell? ⟨db, d + j, none⟩ = some (.int .i64 xss[i][j])))
theorem MatsA.call {w w1 : World} {a : Option Addr} {xss : List (List Int)} (h : MatsA w a xss) (hb : Below w.heap.size w w1) : MatsA w1 a xss := by
  refine ⟨h.1, h.2.1, ?_⟩
  rcases h.2.2 with h0 | ⟨cb, co, rfl, hc⟩
  · exact .inl h0
  · refine .inr ⟨cb, co, rfl, fun i hi => ?_⟩
    obtain ⟨b, c, q1, q2⟩ := hc i hi
    refine ⟨b, c, (hb.cell (World.block_lt_of_cell? w _ q1)).trans q1, ?_⟩
    rcases q2 with q2 | ⟨db, d, rfl, q3⟩
    · exact .inl q2
    · exact .inr ⟨db, d, rfl, fun j hj => (hb.cell (World.block_lt_of_cell? w _ (q3 j hj))).trans (q3 j hj)⟩
set_option maxHeartbeats 1000000 in
theorem szInt64SS_c (a : Option Addr) (cap : Nat) (xs : List (List Int)) (left : Int) (h0 : 0 ≤ left) (h1 : left ≤ 1048576) (w : World) (h : MatsA w a xs) : Calls Tryd.prog 35 #[.slice a xs.length cap, .int .i64 left] w fun e w' => e = .returned (.int .i64 (szM xs left)) ∧ Below w.heap.size w w' := by
  have hl := h.1
  obtain ⟨L, hL⟩ : ∃ L, L = xs.length := ⟨_, rfl⟩
  have HZ := hide (show szM xs left = if left - L < 0 then -1 else szN (xs.map List.length) (left - L) by rw [hL]; unfold szM; rfl)
  rw [← hL] at hl ⊢
  have HL := hide hL
  have HH := hide h
  have hl' : (L : Int) ≤ 9223372036854775807 := by omega
  clear h hL
  by_cases hn : left - L < 0
  · rw [unhide HZ, if_pos hn]
    go_enter Tryd.func35, Tryd.ntmps35
    go_wp2
    go_ret
    exact ⟨rfl, Below.refl _ _⟩
  · rw [unhide HZ, if_neg hn]
    clear HZ
    go_enter Tryd.func35, Tryd.ntmps35
    go_wp2
    go_loopw [1, 5] (fun l i wr => ∃ (k : Nat) (m : Int), k ≤ L ∧ 0 ≤ m ∧ m ≤ 1048576 ∧ i = .int .i64 k ∧ l = .int .i64 m ∧ szN ((xs.map List.length).drop k) m = szN (xs.map List.length) (left - L) ∧ Below w.heap.size w wr) (fun _ i _ => L - (intOf i).toNat)
    case atStart => exact ⟨0, left - L, Nat.zero_le _, by omega, by omega, rfl, rfl, by rw [List.drop_zero], Below.refl _ _⟩
    case round =>
      obtain ⟨k, m, hk, m0, m1, rfl, rfl, he, hb⟩ := hrel
      have HE := hide he
      have HB := hide hb
      clear he
      by_cases hlt : k < L
      · have hk' : k < xs.length := by rw [← unhide HL]; exact hlt
        rcases ((unhide HH).call hb).2.2 with h0 | ⟨cb, co, rfl, hc⟩
        · omega
        obtain ⟨ba, bc, c, _⟩ := hc k hk'
        have sz := (unhide HH).2.1 k hk'
        have HD := hide (szN_drop (xs.map List.length) k (by rw [List.length_map]; exact hk') m)
        rw [List.getElem_map] at HD
        clear hc hb
        generalize xs[k].length = x at c sz HD
        have sz' : (x : Int) ≤ 9223372036854775807 := by omega
        by_cases hm : m - x < 0
        · have HX := hide (show szN (xs.map List.length) (left - L) = -1 by rw [← unhide HE, unhide HD, if_pos hm])
          go_wp2_with fail
          refine (szInt64S_c _ x _ _ sz m0 m1 _).mono ?_
          rintro e w2 ⟨rfl, rfl⟩
          unfold sz1
          rw [if_pos hm]
          have HK := HB
          clear c
          go_wp2
          go_ret
          exact ⟨by rw [unhide HX]; rfl, unhide HK⟩
        · have HX := hide (show szN ((xs.map List.length).drop (k + 1)) (m - x) = szN (xs.map List.length) (left - L) by rw [← unhide HE, unhide HD, if_neg hm])
          go_wp2_with fail
          refine (szInt64S_c _ x _ _ sz m0 m1 _).mono ?_
          rintro e w2 ⟨rfl, rfl⟩
          unfold sz1
          rw [if_neg (by omega)]
          have HK := HB
          clear c
          go_wp2
          go_roundw
          case rel => exact ⟨k + 1, m - x, by omega, by omega, by omega, by go_num, rfl, unhide HX, unhide HK⟩
          case measure => simp [intOf]; omega
      · have HX := hide (show szN (xs.map List.length) (left - L) = m by rw [← unhide HE, List.drop_of_length_le (by rw [List.length_map]; have := unhide HL; omega)]; rfl)
        clear hb
        go_wp2
        go_ret
        exact ⟨by rw [unhide HX]; rfl, unhide HB⟩
end Go.Proofs.YtcceeejmppamdaaDoor
