/- Rows of entries; the laws' copies of them. -/
import Derived.Test.YthldhjifnpfmiaaGreatDoorIvsC
namespace Go.Proofs.YthldhjifnpfmiaaGreatDoor
open Go.RowKit
set_option linter.unusedSimpArgs false

theorem toEntry_c (s : Int) (z : Int) (w : World) : Calls Tryz.prog 33 #[.agg #[.int .i64 s, .int .i64 z]] w fun e w' => e = .returned (.agg #[.int .i64 s, .int .i64 z]) ∧ Below w.heap.size w w' := by
  go_enter Tryz.func33, Tryz.ntmps33
  go_wp2
  exact bodyPost_ret (v := .agg #[.int .i64 s, .int .i64 z]) (by simp [results, Tryz.results33, go_sem]) rfl ⟨rfl, ((Below.refl _ _).alloc (Nat.le_refl _) _).alloc (by simp) _ |>.alloc (by simp; omega) _⟩
theorem eqEntry_c (s : Int) (z : Int) (w : World) : Calls Tryz.prog 45 #[.agg #[.int .i64 s, .int .i64 z], .agg #[.int .i64 s, .int .i64 z]] w fun e w' => e = .returned (.bool true) ∧ Below w.heap.size w w' := by
  go_enter Tryz.func45, Tryz.ntmps45
  go_wp2
  go_ret
  exact ⟨rfl, ((Below.refl _ _).alloc (Nat.le_refl _) _).alloc (by simp) _⟩
theorem entInfo : (Tryz.prog.info? 78).map (fun i => (i.zero, i.size, i.bytes)) = some (some (.agg #[.int .i64 0, .int .i64 0]), 2, 16) := by kernel_rfl
theorem makeN_c (n : Nat) (hn : n ≤ 1048576) (zs : List (Int × Int)) (hz : zs.length = n) (w : World) : ∃ w1, (Instr.makeSlice 44 (.int .i64 (n : Int)) (.int .i64 (n : Int))).run Tryz.prog w = .ok (.slice (some ⟨w.heap.size, 0, none⟩) n n) w1 ∧ FillV w w.heap.size zs 0 w1 := by
  obtain ⟨inf, hi, hz0, hz1, hz2⟩ := info_parts entInfo
  obtain ⟨w1, hr, ho, hg⟩ := run_make_full (P := Tryz.prog) w w.heap.size 44 78 inf (.agg #[.int .i64 0, .int .i64 0]) 2 Tryz.underlying44 hi hz0 hz1 .i64 .i64 n (by rw [hz2]; omega) (by unfold maxLen; omega) (Nat.le_refl _)
  refine ⟨w1, hr, fun i hi h0 => by omega, fun i hi _ => ?_, fun o => ho.frozenAt o, (ho.lt w.heap.size rfl).2, Nat.le_refl _, (Below.refl _ _).grown hg (Nat.le_refl _) (fun j hj => by simp at hj)⟩
  have m := made2 n i (.int .i64 0) (.int .i64 0) (by omega)
  rw [ho.cellAt (i * 2) (by omega), ho.cellAt (i * 2 + 1) (by omega)]
  exact m
set_option maxHeartbeats 400000 in
theorem toEntryS_c (a : Option Addr) (cap : Nat) (zs : List (Int × Int)) (w : World) (h : Ivs w a zs) : Calls Tryz.prog 11 #[.slice a zs.length cap] w fun e w' => e = .returned (.slice (some ⟨w.heap.size, 0, none⟩) zs.length zs.length) ∧ OwnV w' w.heap.size zs ∧ Below w.heap.size w w' := by
  have hl := h.1
  obtain ⟨L, hL⟩ : ∃ L, L = zs.length := ⟨_, rfl⟩
  rw [← hL] at hl ⊢
  have HL := hide hL
  have HH := hide h
  obtain ⟨w1, hmk, hf⟩ := makeN_c L hl zs hL.symm w
  have HF := hide hf
  have hl' : (L : Int) ≤ 1048576 := by omega
  clear h hL hf
  go_enter Tryz.func11, Tryz.ntmps11
  go_wp2
  go_loopw [4] (fun i wr => ∃ k : Nat, k ≤ L ∧ i = .int .i64 k ∧ FillV w w.heap.size zs k wr) (fun i _ => L - (intOf i).toNat)
  case atStart => exact ⟨0, Nat.zero_le _, rfl, unhide HF⟩
  case round =>
    clear HF hmk
    obtain ⟨k, hk, rfl, hf⟩ := hrel
    by_cases hlt : k < L
    · have hk' : k < zs.length := by rw [← unhide HL]; exact hlt
      obtain ⟨s, hs⟩ : ∃ s, s = zs[k].1 := ⟨_, rfl⟩
      obtain ⟨z, hz⟩ : ∃ z, z = zs[k].2 := ⟨_, rfl⟩
      rcases (unhide HH).2 with h0 | ⟨cb, co, rfl, hc⟩
      · omega
      have hlt' := (unhide HH).lt ⟨cb, co, none⟩ rfl (by omega)
      have c : wr.cell? ⟨cb, co + k * 2, none⟩ = some (.int .i64 s) := (hf.2.2.2.2.2.cell (by exact hlt')).trans (by rw [hs]; exact (hc k hk').1)
      have c1 : wr.cell? ⟨cb, co + k * 2 + 1, none⟩ = some (.int .i64 z) := (hf.2.2.2.2.2.cell (by exact hlt')).trans (by rw [hz]; exact (hc k hk').2)
      have HQ := hide hf
      have Hs := hide hs
      have Hz := hide hz
      clear hc hf hs hz
      go_wp2_with fail
      refine (toEntry_c _ _ _).mono ?_
      rintro e w2 ⟨rfl, hb⟩
      have hf := (unhide HQ).call hb
      have HS := hide (hf.step hk')
      rw [← unhide Hs, ← unhide Hz] at HS
      have c2 := (hf.2.1 k hk' (Nat.le_refl _)).1
      have c3 := (hf.2.1 k hk' (Nat.le_refl _)).2
      have f2 := hf.2.2.1 (k * 2)
      have f3 := hf.2.2.1 (k * 2 + 1)
      clear hf hb HQ c c1
      go_wp2
      go_roundw
      case rel => exact ⟨k + 1, by omega, by go_num, unhide HS⟩
      case measure => simp [intOf]; omega
    · obtain rfl : k = L := by omega
      have HF := hide hf
      clear hf
      go_wp2
      go_ret
      refine ⟨rfl, ⟨⟨by rw [← unhide HL]; exact hl, .inr ⟨w.heap.size, 0, rfl, fun i hi => ?_⟩⟩, (unhide HF).2.2.1, (unhide HF).2.2.2.1⟩, (unhide HF).2.2.2.2.2⟩
      rw [Nat.zero_add]
      exact (unhide HF).1 i hi (by rw [unhide HL]; exact hi)

set_option maxHeartbeats 400000 in
theorem eqEntryS_c (a b : Option Addr) (c d : Nat) (zs : List (Int × Int)) (w : World) (h : Ivs w a zs) (h2 : Ivs w b zs) : Calls Tryz.prog 16 #[.slice a zs.length c, .slice b zs.length d] w fun e w' => e = .returned (.bool true) ∧ Below w.heap.size w w' := by
  have hl := h.1
  obtain ⟨L, hL⟩ : ∃ L, L = zs.length := ⟨_, rfl⟩
  rw [← hL] at hl ⊢
  have HL := hide hL
  have HH := hide h
  have HG := hide h2
  have hl' : (L : Int) ≤ 1048576 := by omega
  clear h h2 hL
  go_enter Tryz.func16, Tryz.ntmps16
  go_wp2
  go_loopw [5] (fun i wr => ∃ k : Nat, k ≤ L ∧ i = .int .i64 k ∧ Below w.heap.size w wr) (fun i _ => L - (intOf i).toNat)
  case atStart => exact ⟨0, Nat.zero_le _, rfl, Below.refl _ _⟩
  case round =>
    obtain ⟨k, hk, rfl, hb⟩ := hrel
    have HB := hide hb
    by_cases hlt : k < L
    · have hk' : k < zs.length := by rw [← unhide HL]; exact hlt
      obtain ⟨s, hs⟩ : ∃ s, s = zs[k].1 := ⟨_, rfl⟩
      obtain ⟨z, hz⟩ : ∃ z, z = zs[k].2 := ⟨_, rfl⟩
      rcases ((unhide HH).call hb).2 with h0 | ⟨cb, co, rfl, hc⟩
      · omega
      rcases ((unhide HG).call hb).2 with h0 | ⟨eb, eo, rfl, hd⟩
      · omega
      have c1 := (hc k hk').1
      have c2 := (hc k hk').2
      have c3 := (hd k hk').1
      have c4 := (hd k hk').2
      rw [← hs] at c1 c3
      rw [← hz] at c2 c4
      have hk4 : H4 w ⟨cb, co + k * 2, none⟩ ⟨cb, co + k * 2 + 1, none⟩ ⟨eb, eo + k * 2, none⟩ ⟨eb, eo + k * 2 + 1, none⟩ (.int .i64 s) (.int .i64 z) (.int .i64 s) (.int .i64 z) wr := ⟨c1, c2, c3, c4, hb⟩
      clear hs hz hc hd hb
      go_wp2
      go_region_held3 (H4 w ⟨cb, co + k * 2, none⟩ ⟨cb, co + k * 2 + 1, none⟩ ⟨eb, eo + k * 2, none⟩ ⟨eb, eo + k * 2 + 1, none⟩ (.int .i64 s) (.int .i64 z) (.int .i64 s) (.int .i64 z))
        (first | exact H4.drew (by assumption) | exact H4.call hb (by assumption))
        (first | (go_at_call 45; refine (eqEntry_c _ _ _).mono ?_; rintro e w1 ⟨rfl, hb⟩; have hq := H4.call hb (H4.drew hk4)))
      have HQ := hide hq.2.2.2.2
      clear hq hk4 c1 c2 c3 c4 hb
      go_wp2
      go_roundw
      case rel => exact ⟨k + 1, by omega, by go_num, unhide HQ⟩
      case measure => simp [intOf]; omega
    · clear hb
      go_wp2
      go_ret
      exact ⟨rfl, unhide HB⟩
theorem szEntryS_c (a : Option Addr) (n cap : Nat) (left : Int) (hn : n ≤ 9223372036854775807) (h0 : 0 ≤ left) (h1 : left ≤ 1048576) (w : World) : Calls Tryz.prog 6 #[.slice a n cap, .int .i64 left] w fun e w' => e = .returned (.int .i64 (sz1 n left)) ∧ w' = w := by
  have hn' : (n : Int) ≤ 9223372036854775807 := by omega
  unfold sz1
  by_cases hm : left - n < 0
  · rw [if_pos hm]
    go_enter Tryz.func6, Tryz.ntmps6
    go_wp2
    go_ret
    exact ⟨rfl, rfl⟩
  · rw [if_neg hm]
    go_enter Tryz.func6, Tryz.ntmps6
    go_wp2
    go_ret
    exact ⟨rfl, rfl⟩
end Go.Proofs.YthldhjifnpfmiaaGreatDoor
