/- How much of a size is left behind a row of arrays' names. -/
import Derived.Test.YthldhjifnpfmiaaGreatDoorArrC
namespace Go.Proofs.YthldhjifnpfmiaaGreatDoor
open Go.RowKit
set_option linter.unusedSimpArgs false

/-- A row of arrays of any length that a machine has. -/
def ArrsA (w : World) (a : Option Addr) (xs : List (ByteArray × Int)) : Prop :=
  xs.length ≤ 9223372036854775807 ∧ (∀ i, (h : i < xs.length) → xs[i].1.size ≤ 9223372036854775807) ∧ (xs.length = 0 ∨ ∃ cb co, a = some ⟨cb, co, none⟩ ∧ ∀ i, (h : i < xs.length) → w.cell? ⟨cb, co + i * 2, none⟩ = some (.string xs[i].1) ∧ w.cell? ⟨cb, co + i * 2 + 1, none⟩ = some (.int .i64 xs[i].2))
theorem ArrsA.call {w w1 : World} {a : Option Addr} {xs : List (ByteArray × Int)} (h : ArrsA w a xs) (hb : Below w.heap.size w w1) : ArrsA w1 a xs := by
  refine ⟨h.1, h.2.1, ?_⟩
  rcases h.2.2 with h0 | ⟨cb, co, rfl, hc⟩
  · exact .inl h0
  · exact .inr ⟨cb, co, rfl, fun i hi => ⟨(hb.cell (World.block_lt_of_cell? w _ (hc i hi).1)).trans (hc i hi).1, (hb.cell (World.block_lt_of_cell? w _ (hc i hi).2)).trans (hc i hi).2⟩⟩
theorem StrsA.call {w w1 : World} {a : Option Addr} {xs : List ByteArray} (h : StrsA w a xs) (hb : Below w.heap.size w w1) : StrsA w1 a xs := by
  refine ⟨h.1, h.2.1, ?_⟩
  rcases h.2.2 with h0 | ⟨cb, co, rfl, hc⟩
  · exact .inl h0
  · exact .inr ⟨cb, co, rfl, fun i hi => (hb.cell (World.block_lt_of_cell? w _ (hc i hi))).trans (hc i hi)⟩
def szA (xs : List (ByteArray × Int)) (l : Int) : Int := szS (xs.map (·.1)) l
set_option maxHeartbeats 1000000 in
theorem szArrS_c (a : Option Addr) (cap : Nat) (xs : List (ByteArray × Int)) (left : Int) (h0 : 0 ≤ left) (h1 : left ≤ 1048576) (w : World) (h : ArrsA w a xs) : Calls Tryz.prog 19 #[.slice a xs.length cap, .int .i64 left] w fun e w' => e = .returned (.int .i64 (szA xs left)) ∧ Below w.heap.size w w' := by
  have hl := h.1
  obtain ⟨L, hL⟩ : ∃ L, L = xs.length := ⟨_, rfl⟩
  have HZ := hide (show szA xs left = if left - L < 0 then -1 else szL (xs.map (·.1)) (left - L) by rw [hL]; unfold szA szS; rw [List.length_map])
  rw [← hL] at hl ⊢
  have HL := hide hL
  have HH := hide h
  have hl' : (L : Int) ≤ 9223372036854775807 := by omega
  clear h hL
  by_cases hn : left - L < 0
  · rw [unhide HZ, if_pos hn]
    go_enter Tryz.func19, Tryz.ntmps19
    go_wp2
    go_ret
    exact ⟨rfl, Below.refl _ _⟩
  · rw [unhide HZ, if_neg hn]
    clear HZ
    go_enter Tryz.func19, Tryz.ntmps19
    go_wp2
    go_loopw [1, 5] (fun l i wr => ∃ (k : Nat) (m : Int), k ≤ L ∧ 0 ≤ m ∧ m ≤ 1048576 ∧ i = .int .i64 k ∧ l = .int .i64 m ∧ szL ((xs.map (·.1)).drop k) m = szL (xs.map (·.1)) (left - L) ∧ Below w.heap.size w wr) (fun _ i _ => L - (intOf i).toNat)
    case atStart => exact ⟨0, left - L, Nat.zero_le _, by omega, by omega, rfl, rfl, by rw [List.drop_zero], Below.refl _ _⟩
    case round =>
      obtain ⟨k, m, hk, m0, m1, rfl, rfl, he, hb⟩ := hrel
      have HE := hide he
      have HB := hide hb
      clear he
      by_cases hlt : k < L
      · have hk' : k < xs.length := by rw [← unhide HL]; exact hlt
        rcases ((unhide HH).call hb).2.2 with h0 | ⟨cb, co, rfl, hc⟩
        · omega
        have c := (hc k hk').1
        have c2 := (hc k hk').2
        have sz := (unhide HH).2.1 k hk'
        have HD := hide (szL_drop (xs.map (·.1)) k (by rw [List.length_map]; exact hk') m)
        rw [List.getElem_map] at HD
        clear hc hb
        generalize xs[k].1 = x at c sz HD
        generalize xs[k].2 = z at c2
        have sz' : (x.size : Int) ≤ 9223372036854775807 := by omega
        by_cases hm : m - x.size < 0
        · have HX := hide (show szL (xs.map (·.1)) (left - L) = -1 by rw [← unhide HE, unhide HD, if_pos hm])
          go_wp2_with fail
          refine (szArr_c _ _ _ sz' m0 m1 _).mono ?_
          rintro e w2 ⟨rfl, hb⟩
          rw [if_pos hm]
          have HK := hide ((unhide HB).trans (hb.mono (unhide HB).size))
          clear hb c c2
          go_wp2
          go_ret
          exact ⟨by rw [unhide HX]; rfl, unhide HK⟩
        · have HX := hide (show szL ((xs.map (·.1)).drop (k + 1)) (m - x.size) = szL (xs.map (·.1)) (left - L) by rw [← unhide HE, unhide HD, if_neg hm])
          go_wp2_with fail
          refine (szArr_c _ _ _ sz' m0 m1 _).mono ?_
          rintro e w2 ⟨rfl, hb⟩
          rw [if_neg (by omega)]
          have HK := hide ((unhide HB).trans (hb.mono (unhide HB).size))
          clear hb c c2
          go_wp2
          go_roundw
          case rel => exact ⟨k + 1, m - x.size, by omega, by omega, by omega, by go_num, rfl, unhide HX, unhide HK⟩
          case measure => simp [intOf]; omega
      · have HX := hide (show szL (xs.map (·.1)) (left - L) = m by rw [← unhide HE, List.drop_of_length_le (by rw [List.length_map]; have := unhide HL; omega)]; rfl)
        clear hb
        go_wp2
        go_ret
        exact ⟨by rw [unhide HX]; rfl, unhide HB⟩
end Go.Proofs.YthldhjifnpfmiaaGreatDoor
