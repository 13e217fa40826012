/- Texts that go together: WdA, WdB, WdD. -/
import Derived.Test.YtoipaejbkcdioaaDoorIvX
import Derived.Test.YtoipaejbkcdioaaDoorStZ
import Derived.Test.YtoipaejbkcdioaaDoorEnvF
import Derived.Deep.LoopGhost
import Derived.WalkSpells
import Derived.Deep.RegionHeld3
import Derived.Deep.DeepCutAuto
import Derived.Deep.DrawnRows
import Derived.WalkSmall
/- Rows of numbers; the nearest step below, or above, a number. -/
namespace Go.Proofs.YtoipaejbkcdioaaDoor
open Go.RowKit
set_option linter.unusedSimpArgs false

theorem ret_int {k : IntKind} {x y : Int} (h : x = y) : Ending.returned (.int k x) = .returned (.int k y) := by rw [h]
def dn (n : Int) (zs : List Int) : Int := zs.foldl (fun b s => if s ≤ n then mx b s else b) (-9223372036854775808)
def up (n : Int) (zs : List Int) : Int := zs.foldl (fun b s => if n ≤ s then mn b s else b) 9223372036854775807
theorem take_snoc {α : Type} (zs : List α) (k : Nat) (h : k < zs.length) : zs.take (k + 1) = zs.take k ++ [zs[k]] := List.take_succ_eq_append_getElem h
theorem dn_snoc (n : Int) (zs : List Int) (k : Nat) (h : k < zs.length) : dn n (zs.take (k + 1)) = if zs[k] ≤ n then mx (dn n (zs.take k)) zs[k] else dn n (zs.take k) := by
  rw [take_snoc zs k h]; unfold dn; rw [List.foldl_append]; rfl
theorem up_snoc (n : Int) (zs : List Int) (k : Nat) (h : k < zs.length) : up n (zs.take (k + 1)) = if n ≤ zs[k] then mn (up n (zs.take k)) zs[k] else up n (zs.take k) := by
  rw [take_snoc zs k h]; unfold up; rw [List.foldl_append]; rfl

set_option maxHeartbeats 400000 in
theorem stepDown_c (n : Int) (a : Option Addr) (cap : Nat) (zs : List Int) (w : World) (h : Ints w a zs) : Calls Tryd.prog 78 #[.int .i64 n, .slice a zs.length cap] w fun e w' => e = .returned (.int .i64 (dn n zs)) ∧ w' = w := by
  have hl := h.1
  obtain ⟨L, hL⟩ : ∃ L, L = zs.length := ⟨_, rfl⟩
  rw [← hL] at hl ⊢
  have HL := hide hL
  have HH := hide h
  clear h hL
  go_enter Tryd.func78, Tryd.ntmps78
  go_wp2
  go_loop [5, 10] (fun b i => ∃ k : Nat, k ≤ L ∧ i = .int .i64 k ∧ b = .int .i64 (dn n (zs.take k))) (fun _ i => L - (intOf i).toNat)
  case atStart => exact ⟨0, Nat.zero_le _, rfl, rfl⟩
  case round =>
    obtain ⟨k, hk, rfl, rfl⟩ := hrel
    by_cases hlt : k < L
    · have hk' : k < zs.length := by rw [← unhide HL]; exact hlt
      have HS := hide (dn_snoc n zs k hk')
      obtain ⟨s, hs⟩ : ∃ s, s = zs[k] := ⟨_, rfl⟩
      rcases (unhide HH).2 with h0 | ⟨cb, co, rfl, hc⟩
      · omega
      have c := hc k hk'
      rw [← hs] at c HS
      obtain ⟨D, hD⟩ : ∃ D, D = dn n (zs.take k) := ⟨_, rfl⟩
      rw [← hD] at HS ⊢
      have q := hmx D s
      clear hs hc hD
      go_wp2
      · go_round
        case rel => exact ⟨k + 1, by omega, by go_num, by rw [unhide HS, if_pos (by omega)]⟩
        case measure => simp [intOf]; omega
      · go_round
        case rel => exact ⟨k + 1, by omega, by go_num, by rw [unhide HS, if_neg (by omega)]⟩
        case measure => simp [intOf]; omega
    · go_wp2
      go_ret
      exact ⟨ret_int (by rw [List.take_of_length_le (by have := unhide HL; omega)]), rfl⟩
set_option maxHeartbeats 400000 in
theorem stepUp_c (n : Int) (a : Option Addr) (cap : Nat) (zs : List Int) (w : World) (h : Ints w a zs) : Calls Tryd.prog 79 #[.int .i64 n, .slice a zs.length cap] w fun e w' => e = .returned (.int .i64 (up n zs)) ∧ w' = w := by
  have hl := h.1
  obtain ⟨L, hL⟩ : ∃ L, L = zs.length := ⟨_, rfl⟩
  rw [← hL] at hl ⊢
  have HL := hide hL
  have HH := hide h
  clear h hL
  go_enter Tryd.func79, Tryd.ntmps79
  go_wp2
  go_loop [5, 10] (fun b i => ∃ k : Nat, k ≤ L ∧ i = .int .i64 k ∧ b = .int .i64 (up n (zs.take k))) (fun _ i => L - (intOf i).toNat)
  case atStart => exact ⟨0, Nat.zero_le _, rfl, rfl⟩
  case round =>
    obtain ⟨k, hk, rfl, rfl⟩ := hrel
    by_cases hlt : k < L
    · have hk' : k < zs.length := by rw [← unhide HL]; exact hlt
      have HS := hide (up_snoc n zs k hk')
      obtain ⟨s, hs⟩ : ∃ s, s = zs[k] := ⟨_, rfl⟩
      rcases (unhide HH).2 with h0 | ⟨cb, co, rfl, hc⟩
      · omega
      have c := hc k hk'
      rw [← hs] at c HS
      obtain ⟨D, hD⟩ : ∃ D, D = up n (zs.take k) := ⟨_, rfl⟩
      rw [← hD] at HS ⊢
      have q := hmn D s
      clear hs hc hD
      go_wp2
      · go_round
        case rel => exact ⟨k + 1, by omega, by go_num, by rw [unhide HS, if_pos (by omega)]⟩
        case measure => simp [intOf]; omega
      · go_round
        case rel => exact ⟨k + 1, by omega, by go_num, by rw [unhide HS, if_neg (by omega)]⟩
        case measure => simp [intOf]; omega
    · go_wp2
      go_ret
      exact ⟨ret_int (by rw [List.take_of_length_le (by have := unhide HL; omega)]), rfl⟩
end Go.Proofs.YtoipaejbkcdioaaDoor

/- The program's widening. -/
namespace Go.Proofs.YtoipaejbkcdioaaDoor
open Go.RowKit
set_option linter.unusedSimpArgs false

def widL (al ah bl bh : Int) (zs : List Int) : Int := if al ≤ ah ∧ bl ≤ bh ∧ zs.length ≤ 100 then (if bl < al then dn bl zs else al) else 0
def widH (al ah bl bh : Int) (zs : List Int) : Int := if al ≤ ah ∧ bl ≤ bh ∧ zs.length ≤ 100 then (if ah < bh then up bh zs else ah) else 0
theorem wid_bad1 (al ah bl bh : Int) (a : Option Addr) (n cap : Nat) (w : World) (h : ¬ (al ≤ ah ∧ bl ≤ bh)) : Calls Tryd.prog 56 #[.agg #[.int .i64 al, .int .i64 ah], .agg #[.int .i64 bl, .int .i64 bh], .slice a n cap] w fun e w' => e = .returned (.agg #[.int .i64 0, .int .i64 0]) ∧ Below w.heap.size w w' := by
  have e1 : bothB al ah bl bh = false := decide_eq_false h
  clear h
  go_enter Tryd.func56, Tryd.ntmps56
  go_wp2_with fail
  refine (bothOk_c _ _ _ _ _).mono ?_
  rintro e w1 ⟨rfl, hb1⟩
  have B1 := hb1.mono (show w.heap.size + 3 ≤ _ by simp)
  clear hb1
  obtain ⟨hc1, hf1⟩ := bcellB B1
  have K1 := hide (((((Below.refl _ w).alloc (Nat.le_refl _) _).alloc (by simp) _).alloc (by simp; omega) _).trans (B1.mono (by omega)))
  clear B1
  go_wp2
  exact bodyPost_ret (v := .agg #[.int .i64 0, .int .i64 0]) (by simp [results, Tryd.results56, go_sem, hc1]) rfl ⟨rfl, ((unhide K1).setCell (by simp; omega) _).setCell (by simp; omega) _⟩
theorem wid_bad2 (al ah bl bh : Int) (a : Option Addr) (n cap : Nat) (w : World) (h : al ≤ ah ∧ bl ≤ bh) (hn : 100 < n) (hm : n ≤ 1048576) : Calls Tryd.prog 56 #[.agg #[.int .i64 al, .int .i64 ah], .agg #[.int .i64 bl, .int .i64 bh], .slice a n cap] w fun e w' => e = .returned (.agg #[.int .i64 0, .int .i64 0]) ∧ Below w.heap.size w w' := by
  have e1 : bothB al ah bl bh = true := decide_eq_true h
  have hn' : (100 : Int) < (n : Int) := by omega
  clear h
  go_enter Tryd.func56, Tryd.ntmps56
  go_wp2_with fail
  refine (bothOk_c _ _ _ _ _).mono ?_
  rintro e w1 ⟨rfl, hb1⟩
  have B1 := hb1.mono (show w.heap.size + 3 ≤ _ by simp)
  clear hb1
  obtain ⟨hc1, hf1⟩ := bcellB B1
  have K1 := hide (((((Below.refl _ w).alloc (Nat.le_refl _) _).alloc (by simp) _).alloc (by simp; omega) _).trans (B1.mono (by omega)))
  clear B1
  go_wp2
  exact bodyPost_ret (v := .agg #[.int .i64 0, .int .i64 0]) (by simp [results, Tryd.results56, go_sem, hc1]) rfl ⟨rfl, ((unhide K1).setCell (by simp; omega) _).setCell (by simp; omega) _⟩
set_option maxHeartbeats 1000000 in
theorem wid_ok (al ah bl bh : Int) (a : Option Addr) (cap : Nat) (zs : List Int) (w : World) (h : al ≤ ah ∧ bl ≤ bh) (hn : zs.length ≤ 100) (hz : Ints w a zs) : Calls Tryd.prog 56 #[.agg #[.int .i64 al, .int .i64 ah], .agg #[.int .i64 bl, .int .i64 bh], .slice a zs.length cap] w fun e w' => e = .returned (.agg #[.int .i64 (if bl < al then dn bl zs else al), .int .i64 (if ah < bh then up bh zs else ah)]) ∧ Below w.heap.size w w' := by
  have e1 : bothB al ah bl bh = true := decide_eq_true h
  have HZ := hide hz
  obtain ⟨n, hN⟩ : ∃ n, n = zs.length := ⟨_, rfl⟩
  rw [← hN] at hn ⊢
  have HN := hide hN
  have hn' : (n : Int) ≤ 100 := by omega
  clear h hz hN
  by_cases h1 : bl < al
  · by_cases h2 : ah < bh
    · rw [if_pos h1, if_pos h2]
      go_enter Tryd.func56, Tryd.ntmps56
      go_wp2_with fail
      refine (bothOk_c _ _ _ _ _).mono ?_
      rintro e w1 ⟨rfl, hb1⟩
      have B1 := hb1.mono (show w.heap.size + 3 ≤ _ by simp)
      clear hb1
      obtain ⟨hc1, hf1⟩ := bcellB B1
      have z1 : w.heap.size + 3 ≤ w1.heap.size := by have := B1.size; simp at this; omega
      have ne1 : ¬ w.heap.size = w1.heap.size := by omega
      have ne2 : ¬ w.heap.size + 1 = w1.heap.size := by omega
      have ne3 : ¬ w.heap.size + 1 + 1 = w1.heap.size := by omega
      have K1 := hide (((((Below.refl _ w).alloc (Nat.le_refl _) _).alloc (by simp) _).alloc (by simp; omega) _).trans (B1.mono (by omega)))
      have p0 : ∀ o, (w1.alloc o).cell? ⟨w.heap.size, 0, none⟩ = some (.int .i64 al) := fun o => (World.cell?_alloc_lt _ _ _ (by show w.heap.size < _; omega)).trans ((hc1 _ _ (by omega)).trans (by simp [go_sem]))
      have p1 : ∀ o, (w1.alloc o).cell? ⟨w.heap.size, 1, none⟩ = some (.int .i64 ah) := fun o => (World.cell?_alloc_lt _ _ _ (by show w.heap.size < _; omega)).trans ((hc1 _ _ (by omega)).trans (by simp [go_sem]))
      have p2 : ∀ o, (w1.alloc o).cell? ⟨w.heap.size + 1, 0, none⟩ = some (.int .i64 bl) := fun o => (World.cell?_alloc_lt _ _ _ (by show w.heap.size + 1 < _; omega)).trans ((hc1 _ _ (by omega)).trans (by simp [go_sem]))
      have p3 : ∀ o, (w1.alloc o).cell? ⟨w.heap.size + 1, 1, none⟩ = some (.int .i64 bh) := fun o => (World.cell?_alloc_lt _ _ _ (by show w.heap.size + 1 < _; omega)).trans ((hc1 _ _ (by omega)).trans (by simp [go_sem]))
      have p5 : ∀ o, (w1.alloc o).cell? ⟨w.heap.size + 1 + 1, 0, none⟩ = some (.int .i64 0) := fun o => (World.cell?_alloc_lt _ _ _ (by show w.heap.size + 1 + 1 < _; omega)).trans ((hc1 _ _ (by omega)).trans (by simp [go_sem]))
      have p6 : ∀ o, (w1.alloc o).cell? ⟨w.heap.size + 1 + 1, 1, none⟩ = some (.int .i64 0) := fun o => (World.cell?_alloc_lt _ _ _ (by show w.heap.size + 1 + 1 < _; omega)).trans ((hc1 _ _ (by omega)).trans (by simp [go_sem]))
      have p7 : ∀ o i, (w1.alloc o).frozen? ⟨w.heap.size + 1 + 1, i, none⟩ = false := fun o i => (((Below.refl _ w1).alloc (Nat.le_refl _) o).frozen (by show w.heap.size + 1 + 1 < _; omega)).trans ((hf1 _ _ (by omega)).trans (by simp [go_sem]))
      clear B1
      go_wp2_with fail
      rw [unhide HN]
      refine (stepDown_c _ _ _ _ _ ?_).mono ?_
      · exact (unhide HZ).to ((unhide K1).alloc (unhide K1).size _) (unhide HZ).lt
      rintro e w2 ⟨rfl, rfl⟩
      rw [← unhide HN]
      go_wp2_with fail
      rw [unhide HN]
      refine (stepUp_c _ _ _ _ _ ?_).mono ?_
      · exact (unhide HZ).to ((unhide K1).alloc (unhide K1).size _) (unhide HZ).lt
      rintro e w2 ⟨rfl, rfl⟩
      rw [← unhide HN]
      go_wp2
      exact bodyPost_ret (v := .agg #[.int .i64 (dn bl zs), .int .i64 (up bh zs)]) (by simp [results, Tryd.results56, go_sem, p5, p6]) rfl ⟨rfl, (((unhide K1).alloc (unhide K1).size _).setCell (by simp; omega) _).setCell (by simp; omega) _⟩
    · rw [if_pos h1, if_neg h2]
      go_enter Tryd.func56, Tryd.ntmps56
      go_wp2_with fail
      refine (bothOk_c _ _ _ _ _).mono ?_
      rintro e w1 ⟨rfl, hb1⟩
      have B1 := hb1.mono (show w.heap.size + 3 ≤ _ by simp)
      clear hb1
      obtain ⟨hc1, hf1⟩ := bcellB B1
      have z1 : w.heap.size + 3 ≤ w1.heap.size := by have := B1.size; simp at this; omega
      have ne1 : ¬ w.heap.size = w1.heap.size := by omega
      have ne2 : ¬ w.heap.size + 1 = w1.heap.size := by omega
      have ne3 : ¬ w.heap.size + 1 + 1 = w1.heap.size := by omega
      have K1 := hide (((((Below.refl _ w).alloc (Nat.le_refl _) _).alloc (by simp) _).alloc (by simp; omega) _).trans (B1.mono (by omega)))
      have p0 : ∀ o, (w1.alloc o).cell? ⟨w.heap.size, 0, none⟩ = some (.int .i64 al) := fun o => (World.cell?_alloc_lt _ _ _ (by show w.heap.size < _; omega)).trans ((hc1 _ _ (by omega)).trans (by simp [go_sem]))
      have p1 : ∀ o, (w1.alloc o).cell? ⟨w.heap.size, 1, none⟩ = some (.int .i64 ah) := fun o => (World.cell?_alloc_lt _ _ _ (by show w.heap.size < _; omega)).trans ((hc1 _ _ (by omega)).trans (by simp [go_sem]))
      have p2 : ∀ o, (w1.alloc o).cell? ⟨w.heap.size + 1, 0, none⟩ = some (.int .i64 bl) := fun o => (World.cell?_alloc_lt _ _ _ (by show w.heap.size + 1 < _; omega)).trans ((hc1 _ _ (by omega)).trans (by simp [go_sem]))
      have p3 : ∀ o, (w1.alloc o).cell? ⟨w.heap.size + 1, 1, none⟩ = some (.int .i64 bh) := fun o => (World.cell?_alloc_lt _ _ _ (by show w.heap.size + 1 < _; omega)).trans ((hc1 _ _ (by omega)).trans (by simp [go_sem]))
      have p5 : ∀ o, (w1.alloc o).cell? ⟨w.heap.size + 1 + 1, 0, none⟩ = some (.int .i64 0) := fun o => (World.cell?_alloc_lt _ _ _ (by show w.heap.size + 1 + 1 < _; omega)).trans ((hc1 _ _ (by omega)).trans (by simp [go_sem]))
      have p6 : ∀ o, (w1.alloc o).cell? ⟨w.heap.size + 1 + 1, 1, none⟩ = some (.int .i64 0) := fun o => (World.cell?_alloc_lt _ _ _ (by show w.heap.size + 1 + 1 < _; omega)).trans ((hc1 _ _ (by omega)).trans (by simp [go_sem]))
      have p7 : ∀ o i, (w1.alloc o).frozen? ⟨w.heap.size + 1 + 1, i, none⟩ = false := fun o i => (((Below.refl _ w1).alloc (Nat.le_refl _) o).frozen (by show w.heap.size + 1 + 1 < _; omega)).trans ((hf1 _ _ (by omega)).trans (by simp [go_sem]))
      clear B1
      go_wp2_with fail
      rw [unhide HN]
      refine (stepDown_c _ _ _ _ _ ?_).mono ?_
      · exact (unhide HZ).to ((unhide K1).alloc (unhide K1).size _) (unhide HZ).lt
      rintro e w2 ⟨rfl, rfl⟩
      rw [← unhide HN]
      go_wp2
      exact bodyPost_ret (v := .agg #[.int .i64 (dn bl zs), .int .i64 (ah)]) (by simp [results, Tryd.results56, go_sem, p5, p6]) rfl ⟨rfl, (((unhide K1).alloc (unhide K1).size _).setCell (by simp; omega) _).setCell (by simp; omega) _⟩
  · by_cases h2 : ah < bh
    · rw [if_neg h1, if_pos h2]
      go_enter Tryd.func56, Tryd.ntmps56
      go_wp2_with fail
      refine (bothOk_c _ _ _ _ _).mono ?_
      rintro e w1 ⟨rfl, hb1⟩
      have B1 := hb1.mono (show w.heap.size + 3 ≤ _ by simp)
      clear hb1
      obtain ⟨hc1, hf1⟩ := bcellB B1
      have z1 : w.heap.size + 3 ≤ w1.heap.size := by have := B1.size; simp at this; omega
      have ne1 : ¬ w.heap.size = w1.heap.size := by omega
      have ne2 : ¬ w.heap.size + 1 = w1.heap.size := by omega
      have ne3 : ¬ w.heap.size + 1 + 1 = w1.heap.size := by omega
      have K1 := hide (((((Below.refl _ w).alloc (Nat.le_refl _) _).alloc (by simp) _).alloc (by simp; omega) _).trans (B1.mono (by omega)))
      have p0 : ∀ o, (w1.alloc o).cell? ⟨w.heap.size, 0, none⟩ = some (.int .i64 al) := fun o => (World.cell?_alloc_lt _ _ _ (by show w.heap.size < _; omega)).trans ((hc1 _ _ (by omega)).trans (by simp [go_sem]))
      have p1 : ∀ o, (w1.alloc o).cell? ⟨w.heap.size, 1, none⟩ = some (.int .i64 ah) := fun o => (World.cell?_alloc_lt _ _ _ (by show w.heap.size < _; omega)).trans ((hc1 _ _ (by omega)).trans (by simp [go_sem]))
      have p2 : ∀ o, (w1.alloc o).cell? ⟨w.heap.size + 1, 0, none⟩ = some (.int .i64 bl) := fun o => (World.cell?_alloc_lt _ _ _ (by show w.heap.size + 1 < _; omega)).trans ((hc1 _ _ (by omega)).trans (by simp [go_sem]))
      have p3 : ∀ o, (w1.alloc o).cell? ⟨w.heap.size + 1, 1, none⟩ = some (.int .i64 bh) := fun o => (World.cell?_alloc_lt _ _ _ (by show w.heap.size + 1 < _; omega)).trans ((hc1 _ _ (by omega)).trans (by simp [go_sem]))
      have p5 : ∀ o, (w1.alloc o).cell? ⟨w.heap.size + 1 + 1, 0, none⟩ = some (.int .i64 0) := fun o => (World.cell?_alloc_lt _ _ _ (by show w.heap.size + 1 + 1 < _; omega)).trans ((hc1 _ _ (by omega)).trans (by simp [go_sem]))
      have p6 : ∀ o, (w1.alloc o).cell? ⟨w.heap.size + 1 + 1, 1, none⟩ = some (.int .i64 0) := fun o => (World.cell?_alloc_lt _ _ _ (by show w.heap.size + 1 + 1 < _; omega)).trans ((hc1 _ _ (by omega)).trans (by simp [go_sem]))
      have p7 : ∀ o i, (w1.alloc o).frozen? ⟨w.heap.size + 1 + 1, i, none⟩ = false := fun o i => (((Below.refl _ w1).alloc (Nat.le_refl _) o).frozen (by show w.heap.size + 1 + 1 < _; omega)).trans ((hf1 _ _ (by omega)).trans (by simp [go_sem]))
      clear B1
      go_wp2_with fail
      rw [unhide HN]
      refine (stepUp_c _ _ _ _ _ ?_).mono ?_
      · exact (unhide HZ).to ((unhide K1).alloc (unhide K1).size _) (unhide HZ).lt
      rintro e w2 ⟨rfl, rfl⟩
      rw [← unhide HN]
      go_wp2
      exact bodyPost_ret (v := .agg #[.int .i64 (al), .int .i64 (up bh zs)]) (by simp [results, Tryd.results56, go_sem, p5, p6]) rfl ⟨rfl, (((unhide K1).alloc (unhide K1).size _).setCell (by simp; omega) _).setCell (by simp; omega) _⟩
    · rw [if_neg h1, if_neg h2]
      go_enter Tryd.func56, Tryd.ntmps56
      go_wp2_with fail
      refine (bothOk_c _ _ _ _ _).mono ?_
      rintro e w1 ⟨rfl, hb1⟩
      have B1 := hb1.mono (show w.heap.size + 3 ≤ _ by simp)
      clear hb1
      obtain ⟨hc1, hf1⟩ := bcellB B1
      have z1 : w.heap.size + 3 ≤ w1.heap.size := by have := B1.size; simp at this; omega
      have ne1 : ¬ w.heap.size = w1.heap.size := by omega
      have ne2 : ¬ w.heap.size + 1 = w1.heap.size := by omega
      have ne3 : ¬ w.heap.size + 1 + 1 = w1.heap.size := by omega
      have K1 := hide (((((Below.refl _ w).alloc (Nat.le_refl _) _).alloc (by simp) _).alloc (by simp; omega) _).trans (B1.mono (by omega)))
      have p0 : ∀ o, (w1.alloc o).cell? ⟨w.heap.size, 0, none⟩ = some (.int .i64 al) := fun o => (World.cell?_alloc_lt _ _ _ (by show w.heap.size < _; omega)).trans ((hc1 _ _ (by omega)).trans (by simp [go_sem]))
      have p1 : ∀ o, (w1.alloc o).cell? ⟨w.heap.size, 1, none⟩ = some (.int .i64 ah) := fun o => (World.cell?_alloc_lt _ _ _ (by show w.heap.size < _; omega)).trans ((hc1 _ _ (by omega)).trans (by simp [go_sem]))
      have p2 : ∀ o, (w1.alloc o).cell? ⟨w.heap.size + 1, 0, none⟩ = some (.int .i64 bl) := fun o => (World.cell?_alloc_lt _ _ _ (by show w.heap.size + 1 < _; omega)).trans ((hc1 _ _ (by omega)).trans (by simp [go_sem]))
      have p3 : ∀ o, (w1.alloc o).cell? ⟨w.heap.size + 1, 1, none⟩ = some (.int .i64 bh) := fun o => (World.cell?_alloc_lt _ _ _ (by show w.heap.size + 1 < _; omega)).trans ((hc1 _ _ (by omega)).trans (by simp [go_sem]))
      have p5 : ∀ o, (w1.alloc o).cell? ⟨w.heap.size + 1 + 1, 0, none⟩ = some (.int .i64 0) := fun o => (World.cell?_alloc_lt _ _ _ (by show w.heap.size + 1 + 1 < _; omega)).trans ((hc1 _ _ (by omega)).trans (by simp [go_sem]))
      have p6 : ∀ o, (w1.alloc o).cell? ⟨w.heap.size + 1 + 1, 1, none⟩ = some (.int .i64 0) := fun o => (World.cell?_alloc_lt _ _ _ (by show w.heap.size + 1 + 1 < _; omega)).trans ((hc1 _ _ (by omega)).trans (by simp [go_sem]))
      have p7 : ∀ o i, (w1.alloc o).frozen? ⟨w.heap.size + 1 + 1, i, none⟩ = false := fun o i => (((Below.refl _ w1).alloc (Nat.le_refl _) o).frozen (by show w.heap.size + 1 + 1 < _; omega)).trans ((hf1 _ _ (by omega)).trans (by simp [go_sem]))
      clear B1
      go_wp2
      exact bodyPost_ret (v := .agg #[.int .i64 (al), .int .i64 (ah)]) (by simp [results, Tryd.results56, go_sem, p5, p6]) rfl ⟨rfl, (((unhide K1).alloc (unhide K1).size _).setCell (by simp; omega) _).setCell (by simp; omega) _⟩
theorem IvWiden_c (al ah bl bh : Int) (a : Option Addr) (cap : Nat) (zs : List Int) (w : World) (hz : Ints w a zs) : Calls Tryd.prog 56 #[.agg #[.int .i64 al, .int .i64 ah], .agg #[.int .i64 bl, .int .i64 bh], .slice a zs.length cap] w fun e w' => e = .returned (.agg #[.int .i64 (widL al ah bl bh zs), .int .i64 (widH al ah bl bh zs)]) ∧ Below w.heap.size w w' := by
  by_cases h : al ≤ ah ∧ bl ≤ bh
  · by_cases hn : zs.length ≤ 100
    · rw [show widL al ah bl bh zs = _ from if_pos ⟨h.1, h.2, hn⟩, show widH al ah bl bh zs = _ from if_pos ⟨h.1, h.2, hn⟩]
      exact wid_ok al ah bl bh a cap zs w h hn hz
    · rw [show widL al ah bl bh zs = _ from if_neg (by omega), show widH al ah bl bh zs = _ from if_neg (by omega)]
      exact wid_bad2 al ah bl bh a _ cap w h (by omega) hz.1
  · rw [show widL al ah bl bh zs = _ from if_neg (fun k => h ⟨k.1, k.2.1⟩), show widH al ah bl bh zs = _ from if_neg (fun k => h ⟨k.1, k.2.1⟩)]
    exact wid_bad1 al ah bl bh a _ cap w h
end Go.Proofs.YtoipaejbkcdioaaDoor

/- The specification's widening. -/
namespace Go.Proofs.YtoipaejbkcdioaaDoor
open Go.RowKit
set_option linter.unusedSimpArgs false

@[reducible] def S2 (w0 : World) (M B : Nat) (x0 y0 x1 y1 : Int) (w : World) : Prop :=
  w.cell? ⟨B, 0, none⟩ = some (.int .i64 x0) ∧ w.cell? ⟨B, 1, none⟩ = some (.int .i64 y0) ∧ w.cell? ⟨B + 1, 0, none⟩ = some (.int .i64 x1) ∧ w.cell? ⟨B + 1, 1, none⟩ = some (.int .i64 y1) ∧ Below M w0 w ∧ M ≤ w.heap.size ∧ B + 2 ≤ w.heap.size
theorem S2.drew {w0 w : World} {M B : Nat} {x0 y0 x1 y1 : Int} (h : S2 w0 M B x0 y0 x1 y1 w) : S2 w0 M B x0 y0 x1 y1 w.drew := ⟨h.1, h.2.1, h.2.2.1, h.2.2.2.1, h.2.2.2.2.1.drew, h.2.2.2.2.2⟩
theorem S2.call {w0 w w1 : World} {M B : Nat} {x0 y0 x1 y1 : Int} (hb : Below w.heap.size w w1) (h : S2 w0 M B x0 y0 x1 y1 w) : S2 w0 M B x0 y0 x1 y1 w1 := by
  obtain ⟨a, b, c, d, e, f, k⟩ := h
  have g := hb.size
  exact ⟨(hb.cell (by show B < _; omega)).trans a, (hb.cell (by show B < _; omega)).trans b, (hb.cell (by show B + 1 < _; omega)).trans c, (hb.cell (by show B + 1 < _; omega)).trans d, e.trans (hb.mono f), by omega, by omega⟩
theorem S2.alloc {w0 w : World} {M B : Nat} {x0 y0 x1 y1 : Int} (h : S2 w0 M B x0 y0 x1 y1 w) (o : Obj) : S2 w0 M B x0 y0 x1 y1 (w.alloc o) :=
  S2.call ((Below.refl _ _).alloc (Nat.le_refl _) o) h
theorem S2.set {w0 w : World} {M B b o : Nat} {x0 y0 x1 y1 : Int} (h : S2 w0 M B x0 y0 x1 y1 w) (hb : B + 2 ≤ b) (hm : M ≤ b) (v : Value) : S2 w0 M B x0 y0 x1 y1 (w.setCell ⟨b, o, none⟩ v) := by
  have k : Below b w (w.setCell ⟨b, o, none⟩ v) := (Below.refl b w).setCell (p := ⟨b, o, none⟩) (Nat.le_refl _) v
  obtain ⟨a, b, c, d, e, f, g⟩ := h
  exact ⟨(k.cell (by show B < _; omega)).trans a, (k.cell (by show B < _; omega)).trans b, (k.cell (by show B + 1 < _; omega)).trans c, (k.cell (by show B + 1 < _; omega)).trans d, e.trans (k.mono hm), Nat.le_trans f k.size, Nat.le_trans g k.size⟩
/-- A pair of numbers lies in block b, and may be written. -/
def R2 (b : Nat) (x y : Int) (w : World) : Prop := (w.cell? ⟨b, 0, none⟩ = some (.int .i64 x) ∧ w.cell? ⟨b, 1, none⟩ = some (.int .i64 y)) ∧ b < w.heap.size ∧ ∀ o, w.frozen? ⟨b, o, none⟩ = false
theorem R2.to {b c : Nat} {x y : Int} {w w1 : World} (hb : Below c w w1) (hbc : b < c) (h : R2 b x y w) : R2 b x y w1 := by
  obtain ⟨⟨c0, c1⟩, h3, h4⟩ := h
  have := hb.size
  exact ⟨⟨(hb.cell (by exact hbc)).trans c0, (hb.cell (by exact hbc)).trans c1⟩, by omega, fun o => (hb.frozen (by exact hbc)).trans (h4 o)⟩
theorem R2.set0 {b : Nat} {x y : Int} {w : World} (h : R2 b x y w) (v : Int) : R2 b v y (w.setCell ⟨b, 0, none⟩ (.int .i64 v)) := by
  obtain ⟨⟨c0, c1⟩, h3, h4⟩ := h
  exact ⟨⟨by simp [go_sem, c0], by simp [go_sem, c1]⟩, by simpa [World.setCell] using h3, fun o => (World.frozen?_setCell _ _ _ _).trans (h4 o)⟩
theorem R2.set1 {b : Nat} {x y : Int} {w : World} (h : R2 b x y w) (v : Int) : R2 b x v (w.setCell ⟨b, 1, none⟩ (.int .i64 v)) := by
  obtain ⟨⟨c0, c1⟩, h3, h4⟩ := h
  exact ⟨⟨by simp [go_sem, c0], by simp [go_sem, c1]⟩, by simpa [World.setCell] using h3, fun o => (World.frozen?_setCell _ _ _ _).trans (h4 o)⟩
theorem R2.new (w : World) (x y : Int) (t : TypeId) : R2 w.heap.size x y (w.alloc (.cells #[.int .i64 x, .int .i64 y] t)) := ⟨⟨by simp, by simp⟩, by simp, fun o => by simp [go_sem]⟩

/-- What the walk knows: the two pairs, the fresh result, the answer in the making, the steps. -/
def WS (w : World) (al ah bl bh : Int) (a : Option Addr) (zs : List Int) (b : Nat) (x y : Int) (wr : World) : Prop :=
  S2 w w.heap.size w.heap.size al ah bl bh wr ∧ R2 (w.heap.size + 2) 0 0 wr ∧ R2 b x y wr ∧ w.heap.size + 2 < b ∧ Ints wr a zs ∧ (∀ q, a = some q → 0 < zs.length → q.block < w.heap.size)
theorem WS.drewN {w wr : World} {al ah bl bh : Int} {a : Option Addr} {zs : List Int} {b : Nat} {x y : Int} (h : WS w al ah bl bh a zs b x y wr) (n : Nat) : WS w al ah bl bh a zs b x y (wr.drewN n) :=
  ⟨⟨h.1.1, h.1.2.1, h.1.2.2.1, h.1.2.2.2.1, below_drewN h.1.2.2.2.2.1 n, h.1.2.2.2.2.2⟩, h.2.1, h.2.2.1, h.2.2.2.1, h.2.2.2.2.1, h.2.2.2.2.2⟩
theorem WS.set {w wr : World} {al ah bl bh : Int} {a : Option Addr} {zs : List Int} {b o : Nat} {x y x' y' : Int} {v : Value} (h : WS w al ah bl bh a zs b x y wr) (hc : R2 b x' y' (wr.setCell ⟨b, o, none⟩ v)) : WS w al ah bl bh a zs b x' y' (wr.setCell ⟨b, o, none⟩ v) := by
  have k : Below b wr (wr.setCell ⟨b, o, none⟩ v) := (Below.refl b wr).setCell (p := ⟨b, o, none⟩) (Nat.le_refl _) v
  have hz := h.2.2.2.1
  exact ⟨S2.set h.1 (by omega) (by omega) _, h.2.1.to k (by omega), hc, hz, h.2.2.2.2.1.to k (fun q h1 h2 => by have := h.2.2.2.2.2 q h1 h2; omega), h.2.2.2.2.2⟩
theorem WS.at {w wr : World} {al ah bl bh : Int} {a : Option Addr} {zs : List Int} {b : Nat} {x y : Int} (h : WS w al ah bl bh a zs b x y wr) (k : Nat) (hk : k < zs.length) : ∃ cb co, a = some ⟨cb, co, none⟩ ∧ wr.cell? ⟨cb, co + k, none⟩ = some (.int .i64 zs[k]) ∧ cb < w.heap.size := by
  rcases h.2.2.2.2.1.2 with h0 | ⟨cb, co, rfl, hc⟩
  · omega
  · exact ⟨cb, co, rfl, hc k hk, h.2.2.2.2.2 _ rfl (by omega)⟩
set_option maxHeartbeats 4000000 in
theorem sWid_ok (al ah bl bh : Int) (a : Option Addr) (cap : Nat) (zs : List Int) (w : World) (h1 : al ≤ ah) (h2 : bl ≤ bh) (hn : zs.length ≤ 100) (hz : Ints w a zs) : Calls Tryd.prog 80 #[.agg #[.int .i64 al, .int .i64 ah], .agg #[.int .i64 bl, .int .i64 bh], .slice a zs.length cap] w fun e w' => e = .returned (.agg #[.int .i64 (if bl < al then dn bl zs else al), .int .i64 (if ah < bh then up bh zs else ah)]) ∧ Below w.heap.size w w' := by
  have e1 : okB al ah = true := decide_eq_true h1
  have e2 : okB bl bh = true := decide_eq_true h2
  obtain ⟨X, hX⟩ : ∃ X, X = if bl < al then dn bl zs else al := ⟨_, rfl⟩
  obtain ⟨Y, hY⟩ : ∃ Y, Y = if ah < bh then up bh zs else ah := ⟨_, rfl⟩
  rw [← hX, ← hY]
  have HX := hide hX
  have HY := hide hY
  have HZ := hide hz
  have HA := hide hz.lt
  obtain ⟨n, hN⟩ : ∃ n, n = zs.length := ⟨_, rfl⟩
  rw [← hN] at hn ⊢
  have HN := hide hN
  have hn' : (n : Int) ≤ 100 := by omega
  clear h1 h2 hz hN hX hY
  go_enter Tryd.func80, Tryd.ntmps80
  go_wp2_with fail
  refine (sIvOk_c _ _ _).mono ?_
  rintro e w1 ⟨rfl, hb1⟩
  have B1 := hb1.mono (show w.heap.size + 3 ≤ _ by simp)
  clear hb1
  obtain ⟨hc1, hf1⟩ := bcellB B1
  have HB1 := hide B1
  clear B1
  go_wp2_with fail
  refine (sIvOk_c _ _ _).mono ?_
  rintro e w2 ⟨rfl, hb2⟩
  have B2 := (unhide HB1).trans (hb2.mono (by have := (unhide HB1).size; simp at this; omega))
  clear hb2 hc1 hf1 HB1
  have hs0 : S2 w w.heap.size w.heap.size al ah bl bh w2 := by
    have z := B2.size
    simp at z
    exact ⟨(B2.cell (by show w.heap.size < _; omega)).trans (by simp [go_sem]), (B2.cell (by show w.heap.size < _; omega)).trans (by simp [go_sem]), (B2.cell (by show w.heap.size + 1 < _; omega)).trans (by simp [go_sem]), (B2.cell (by show w.heap.size + 1 < _; omega)).trans (by simp [go_sem]), ((((Below.refl _ w).alloc (Nat.le_refl _) _).alloc (by simp) _).alloc (by simp; omega) _).trans (B2.mono (by omega)), by omega, by omega⟩
  have hr : R2 (w.heap.size + 2) 0 0 w2 := by
    have z := B2.size
    simp at z
    exact ⟨⟨(B2.cell (by show w.heap.size + 2 < _; omega)).trans (by simp [go_sem]), (B2.cell (by show w.heap.size + 2 < _; omega)).trans (by simp [go_sem])⟩, by omega, fun o => (B2.frozen (by show w.heap.size + 2 < _; omega)).trans (by simp [go_sem])⟩
  clear B2
  have s0 := hs0.1
  have s1 := hs0.2.1
  have p0 : ∀ o, (w2.alloc o).cell? ⟨w.heap.size, 0, none⟩ = some (.int .i64 al) := fun o => (S2.alloc hs0 o).1
  have p1 : ∀ o, (w2.alloc o).cell? ⟨w.heap.size, 1, none⟩ = some (.int .i64 ah) := fun o => (S2.alloc hs0 o).2.1
  have p2 : ∀ o, (w2.alloc o).cell? ⟨w.heap.size + 1, 0, none⟩ = some (.int .i64 bl) := fun o => (S2.alloc hs0 o).2.2.1
  have p3 : ∀ o, (w2.alloc o).cell? ⟨w.heap.size + 1, 1, none⟩ = some (.int .i64 bh) := fun o => (S2.alloc hs0 o).2.2.2.1
  have hws := hide (fun x y t => (⟨S2.alloc hs0 _, hr.to ((Below.refl _ w2).alloc (Nat.le_refl _) _) hr.2.1, R2.new w2 x y t, hr.2.1, (unhide HZ).to ((hs0.2.2.2.2.1).alloc hs0.2.2.2.2.2.1 _) (unhide HA), unhide HA⟩ : WS w al ah bl bh a zs w2.heap.size x y (w2.alloc (.cells #[.int .i64 x, .int .i64 y] t))))
  clear hs0 hr
  go_upto_if 29 with fail
  have WS0 := hide (unhide hws al ah 67)
  clear hws p0 p1 p2 p3 s0 s1
  generalize w2.alloc (Obj.cells #[.int .i64 al, .int .i64 ah] 67) = W at WS0 ⊢
  generalize w2.heap.size = b at WS0 ⊢
  go_cut [] (fun wc => WS w al ah bl bh a zs b X ah wc)
  case first =>
    obtain ⟨⟨c0, c1⟩, c2, c3⟩ := (unhide WS0).2.2.1
    have f0 := c3 0
    clear c3
    by_cases hlt : bl < al
    · have HX2 := hide (show X = dn bl zs by rw [unhide HX, if_pos hlt])
      rw [show decide (bl < al) = true from decide_eq_true hlt]
      go_wp2
      go_loopw [8] (fun i wr => ∃ k : Nat, k ≤ n ∧ i = .int .i64 k ∧ WS w al ah bl bh a zs b (dn bl (zs.take k)) ah wr) (fun i _ => n - (intOf i).toNat)
      case atStart => exact ⟨0, Nat.zero_le _, rfl, WS.set (x := al) (unhide WS0) (R2.set0 (unhide WS0).2.2.1 _)⟩
      case round =>
        clear WS0 c0 c1 c2 f0
        obtain ⟨k, hk, rfl, hws⟩ := hrel
        by_cases hkn : k < n
        · have hk' : k < zs.length := by rw [← unhide HN]; exact hkn
          have HS := hide (dn_snoc bl zs k hk')
          obtain ⟨s, hs⟩ : ∃ s, s = zs[k] := ⟨_, rfl⟩
          obtain ⟨cb, co, rfl, hc, hcb⟩ := hws.at k hk'
          rw [← hs] at hc HS
          obtain ⟨D, hD⟩ : ∃ D, D = dn bl (zs.take k) := ⟨_, rfl⟩
          rw [← hD] at HS hws
          have q := hmx D s
          clear hs hD
          have c0 := hws.2.2.1.1.1
          have f0 := hws.2.2.1.2.2 0
          have p0 := hws.1.2.2.1
          have HWS := hide hws
          clear hws
          go_wp2
          go_quiet (fail)
          go_wp2
          · go_region_with (fail)
            all_goals
              go_wp2
              go_roundw
              case rel => exact ⟨k + 1, by omega, by go_num, by rw [unhide HS, if_pos (by omega)]; exact WS.set (WS.drewN (unhide HWS) _) (R2.set0 (WS.drewN (unhide HWS) _).2.2.1 _)⟩
              case measure => simp [intOf]; omega
          · go_roundw
            case rel => exact ⟨k + 1, by omega, by go_num, by rw [unhide HS, if_neg (by omega)]; exact (unhide HWS).drewN _⟩
            case measure => simp [intOf]; omega
        · obtain rfl : k = n := by omega
          have HWS := hide hws
          clear hws
          go_wp2
          go_meet
          rw [unhide HX2]
          have := unhide HWS
          rwa [List.take_of_length_le (by have := unhide HN; omega)] at this
    · have HX2 := hide (show X = al by rw [unhide HX, if_neg hlt])
      go_wp2
      go_meet
      rw [unhide HX2]
      exact unhide WS0
  case rest =>
  clear WS0
  have WS1 := hide hcut
  have p0 := hcut.1.2.1
  have p1 := hcut.1.2.2.2.1
  clear hcut
  obtain ⟨wd, rfl⟩ : ∃ wd : World, wd = wc := ⟨_, rfl⟩
  go_upto_if 56 with fail
  clear p0 p1
  go_cut [] (fun wc => WS w al ah bl bh a zs b X Y wc)
  case first =>
    obtain ⟨⟨c0, c1⟩, c2, c3⟩ := (unhide WS1).2.2.1
    have f1 := c3 1
    clear c3
    by_cases hlt : ah < bh
    · have HY2 := hide (show Y = up bh zs by rw [unhide HY, if_pos hlt])
      rw [show decide (ah < bh) = true from decide_eq_true hlt]
      go_wp2
      go_loopw [9] (fun i wr => ∃ k : Nat, k ≤ n ∧ i = .int .i64 k ∧ WS w al ah bl bh a zs b X (up bh (zs.take k)) wr) (fun i _ => n - (intOf i).toNat)
      case atStart => exact ⟨0, Nat.zero_le _, rfl, WS.set (y := ah) (unhide WS1) (R2.set1 (unhide WS1).2.2.1 _)⟩
      case round =>
        clear WS1 c0 c1 c2 f1
        obtain ⟨k, hk, rfl, hws⟩ := hrel
        by_cases hkn : k < n
        · have hk' : k < zs.length := by rw [← unhide HN]; exact hkn
          have HS := hide (up_snoc bh zs k hk')
          obtain ⟨s, hs⟩ : ∃ s, s = zs[k] := ⟨_, rfl⟩
          obtain ⟨cb, co, rfl, hc, hcb⟩ := hws.at k hk'
          rw [← hs] at hc HS
          obtain ⟨D, hD⟩ : ∃ D, D = up bh (zs.take k) := ⟨_, rfl⟩
          rw [← hD] at HS hws
          have q := hmn D s
          clear hs hD
          have c0 := hws.2.2.1.1.2
          have f0 := hws.2.2.1.2.2 1
          have p0 := hws.1.2.2.2.1
          have HWS := hide hws
          clear hws
          go_wp2
          go_quiet (fail)
          go_wp2
          · go_region_with (fail)
            all_goals
              go_wp2
              go_roundw
              case rel => exact ⟨k + 1, by omega, by go_num, by rw [unhide HS, if_pos (by omega)]; exact WS.set (WS.drewN (unhide HWS) _) (R2.set1 (WS.drewN (unhide HWS) _).2.2.1 _)⟩
              case measure => simp [intOf]; omega
          · go_roundw
            case rel => exact ⟨k + 1, by omega, by go_num, by rw [unhide HS, if_neg (by omega)]; exact (unhide HWS).drewN _⟩
            case measure => simp [intOf]; omega
        · obtain rfl : k = n := by omega
          have HWS := hide hws
          clear hws
          go_wp2
          go_meet
          rw [unhide HY2]
          have := unhide HWS
          rwa [List.take_of_length_le (by have := unhide HN; omega)] at this
    · have HY2 := hide (show Y = ah by rw [unhide HY, if_neg hlt])
      go_wp2
      go_meet
      rw [unhide HY2]
      exact unhide WS1
  case rest =>
  clear WS1
  obtain ⟨⟨c0, c1⟩, c2, _⟩ := hcut.2.2.1
  obtain ⟨⟨r0, r1⟩, r2, r3⟩ := hcut.2.1
  have g0 := r3 0
  have g1 := r3 1
  have K := hide hcut.1.2.2.2.2.1
  clear hcut r3
  go_wp2
  exact bodyPost_ret (v := .agg #[.int .i64 X, .int .i64 Y]) (by simp [results, Tryd.results80, go_sem, r0, r1]) rfl ⟨rfl, ((unhide K).setCell (by first | (simp; done) | (simp; omega)) _).setCell (by first | (simp; done) | (simp; omega)) _⟩
set_option maxHeartbeats 1000000 in
theorem sWid_bad (al ah bl bh : Int) (a : Option Addr) (n cap : Nat) (w : World) (hm : n ≤ 1048576) (h : ¬ (al ≤ ah ∧ bl ≤ bh ∧ n ≤ 100)) : Calls Tryd.prog 80 #[.agg #[.int .i64 al, .int .i64 ah], .agg #[.int .i64 bl, .int .i64 bh], .slice a n cap] w fun e w' => e = .returned (.agg #[.int .i64 0, .int .i64 0]) ∧ Below w.heap.size w w' := by
  have hm' : (n : Int) ≤ 1048576 := by omega
  by_cases h1 : al ≤ ah
  · have e1 : okB al ah = true := decide_eq_true h1
    by_cases h2 : bl ≤ bh
    · have e2 : okB bl bh = true := decide_eq_true h2
      have h3 : (100 : Int) < (n : Int) := by omega
      clear h h1 h2
      go_enter Tryd.func80, Tryd.ntmps80
      go_wp2_with fail
      refine (sIvOk_c _ _ _).mono ?_
      rintro e w1 ⟨rfl, hb1⟩
      have B1 := hb1.mono (show w.heap.size + 3 ≤ _ by simp)
      clear hb1
      obtain ⟨hc1, hf1⟩ := bcellB B1
      have HB1 := hide B1
      clear B1
      go_wp2_with fail
      refine (sIvOk_c _ _ _).mono ?_
      rintro e w2 ⟨rfl, hb2⟩
      have B2 := (unhide HB1).trans (hb2.mono (by have := (unhide HB1).size; simp at this; omega))
      clear hb2 hc1 hf1 HB1
      obtain ⟨hc1, hf1⟩ := bcellB B2
      have HB1 := hide B2
      clear B2
      have K3 := hide (((((Below.refl _ w).alloc (Nat.le_refl _) _).alloc (by simp) _).alloc (by simp; omega) _).trans ((unhide HB1).mono (by omega)))
      clear HB1
      go_wp2
      exact bodyPost_ret (v := .agg #[.int .i64 0, .int .i64 0]) (by simp [results, Tryd.results80, go_sem, hc1]) rfl ⟨rfl, ((unhide K3).setCell (by simp; omega) _).setCell (by simp; omega) _⟩
    · have e2 : okB bl bh = false := decide_eq_false h2
      clear h h1 h2
      go_enter Tryd.func80, Tryd.ntmps80
      go_wp2_with fail
      refine (sIvOk_c _ _ _).mono ?_
      rintro e w1 ⟨rfl, hb1⟩
      have B1 := hb1.mono (show w.heap.size + 3 ≤ _ by simp)
      clear hb1
      obtain ⟨hc1, hf1⟩ := bcellB B1
      have HB1 := hide B1
      clear B1
      go_wp2_with fail
      refine (sIvOk_c _ _ _).mono ?_
      rintro e w2 ⟨rfl, hb2⟩
      have B2 := (unhide HB1).trans (hb2.mono (by have := (unhide HB1).size; simp at this; omega))
      clear hb2 hc1 hf1 HB1
      obtain ⟨hc1, hf1⟩ := bcellB B2
      have HB1 := hide B2
      clear B2
      have K3 := hide (((((Below.refl _ w).alloc (Nat.le_refl _) _).alloc (by simp) _).alloc (by simp; omega) _).trans ((unhide HB1).mono (by omega)))
      clear HB1
      go_wp2
      exact bodyPost_ret (v := .agg #[.int .i64 0, .int .i64 0]) (by simp [results, Tryd.results80, go_sem, hc1]) rfl ⟨rfl, ((unhide K3).setCell (by simp; omega) _).setCell (by simp; omega) _⟩
  · have e1 : okB al ah = false := decide_eq_false h1
    clear h h1
    go_enter Tryd.func80, Tryd.ntmps80
    go_wp2_with fail
    refine (sIvOk_c _ _ _).mono ?_
    rintro e w1 ⟨rfl, hb1⟩
    have B1 := hb1.mono (show w.heap.size + 3 ≤ _ by simp)
    clear hb1
    obtain ⟨hc1, hf1⟩ := bcellB B1
    have HB1 := hide B1
    clear B1
    have K3 := hide (((((Below.refl _ w).alloc (Nat.le_refl _) _).alloc (by simp) _).alloc (by simp; omega) _).trans ((unhide HB1).mono (by omega)))
    clear HB1
    go_wp2
    exact bodyPost_ret (v := .agg #[.int .i64 0, .int .i64 0]) (by simp [results, Tryd.results80, go_sem, hc1]) rfl ⟨rfl, ((unhide K3).setCell (by simp; omega) _).setCell (by simp; omega) _⟩
theorem sIvWiden_c (al ah bl bh : Int) (a : Option Addr) (cap : Nat) (zs : List Int) (w : World) (hz : Ints w a zs) : Calls Tryd.prog 80 #[.agg #[.int .i64 al, .int .i64 ah], .agg #[.int .i64 bl, .int .i64 bh], .slice a zs.length cap] w fun e w' => e = .returned (.agg #[.int .i64 (widL al ah bl bh zs), .int .i64 (widH al ah bl bh zs)]) ∧ Below w.heap.size w w' := by
  by_cases h : al ≤ ah ∧ bl ≤ bh ∧ zs.length ≤ 100
  · rw [show widL al ah bl bh zs = _ from if_pos h, show widH al ah bl bh zs = _ from if_pos h]
    exact sWid_ok al ah bl bh a cap zs w h.1 h.2.1 h.2.2 hz
  · rw [show widL al ah bl bh zs = _ from if_neg h, show widH al ah bl bh zs = _ from if_neg h]
    exact sWid_bad al ah bl bh a _ cap w hz.1 h
end Go.Proofs.YtoipaejbkcdioaaDoor

