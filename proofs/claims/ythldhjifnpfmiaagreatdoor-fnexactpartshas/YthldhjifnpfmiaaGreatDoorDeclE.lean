/- Names gathered by the library's Grow and Concat. -/
import Derived.Test.YthldhjifnpfmiaaGreatDoorDeclD
import Derived.Lib.AppendZeros
namespace Go.Proofs.YthldhjifnpfmiaaGreatDoor
open Go.RowKit
set_option linter.unusedSimpArgs false

set_option maxRecDepth 20000 in
set_option maxHeartbeats 1000000 in
theorem Grow_c (n : Nat) (hn : n ≤ 1000) (w : World) : Calls Tryz.prog 93 #[.slice none 0 0, .int .i64 n] w fun e w' => ∃ oa cap, e = .returned (.slice oa 0 cap) ∧ w'.ownsRow w.heap.size 9 1 (.slice oa 0 cap) 0 [] ∧ Below w.heap.size w w' := by
  have hn' : (n : Int) ≤ 1000 := by omega
  obtain ⟨inf, hi, hz0, hz1, hz2⟩ := info_parts strInfo
  by_cases h0 : n = 0
  · subst h0
    go_enter Tryz.func93, Tryz.ntmps93
    go_wp2
    go_ret
    exact ⟨none, 0, rfl, World.ownsRow_nil _ _ _ _, Below.refl _ _⟩
  · have hr := fun (w : World) (ty : TypeId) => Go.Lib.run_append_nil_zeros (P := Tryz.prog) w 22 3 ty 9 inf (.string ⟨#[]⟩) .i64 .i64 Tryz.underlying22 Tryz.underlying3 hi hz0 n (by omega) (by omega) (by omega) (by rw [hz2]; omega)
    have HR := hide hr
    clear hr
    have hp : 0 < n := by omega
    clear h0
    go_enter Tryz.func93, Tryz.ntmps93
    go_wp2_with (at_builtin; refine Go.Lib.wpList_append_run _ rfl _ _ _ _ rfl _ _ rfl rfl _ _ (unhide HR _ _) ?_)
    go_ret
    refine ⟨_, _, rfl, ⟨rfl, .inr ⟨_, _, _, rfl, Nat.le_refl _, heap_alloc_new w _, Nat.zero_le _, grownCap_le_maxLen _ _ _ _ (by unfold maxLen; omega), ?_, rfl⟩⟩, ((Below.refl _ w).alloc (Nat.le_refl _) _).drew⟩
    have := grownCap_ge w n 0 9
    simp only [Array.size_append, size_zeroCells, Array.size_singleton]
    first | omega | (simp; omega)
theorem own_far {w w1 : World} {base : Nat} {e : TypeId} {size n b o : Nat} {v x : Value} {xs : List Value} (h : w.ownsRow base e size v n xs) (hg : w.grownBy w1 v.ownBlock) (hc : w.cell? ⟨b, o, none⟩ = some x) (hb : b < base) : w1.cell? ⟨b, o, none⟩ = some x :=
  (hg.cell_far ⟨b, o, none⟩ (World.block_lt_of_cell? w _ hc) (fun e => by have := (h.lt b e.symm).1; omega)).trans hc
set_option maxRecDepth 20000 in
set_option maxHeartbeats 2000000 in
theorem Concat_c (b a1 a2 c1 c2 : Nat) (vs fs : List ByteArray) (w : World) (h0 : w.cell? ⟨b, 0, none⟩ = some (.slice (some ⟨a1, 0, none⟩) vs.length c1)) (h1 : w.cell? ⟨b, 1, none⟩ = some (.slice (some ⟨a2, 0, none⟩) fs.length c2))
    (hv : Strs w (some ⟨a1, 0, none⟩) vs) (hf : Strs w (some ⟨a2, 0, none⟩) fs) (h5 : vs.length ≤ 5) (h3 : fs.length ≤ 3) : Calls Tryz.prog 76 #[.slice (some ⟨b, 0, none⟩) 2 2] w
    fun e w' => ∃ oa cap, e = .returned (.slice oa (vs.length + fs.length) cap) ∧ w'.ownsRow w.heap.size 9 1 (.slice oa (vs.length + fs.length) cap) (vs.length + fs.length) (cellsS (vs ++ fs)) ∧ Below w.heap.size w w' := by
  have HV := hide hv
  have HF := hide hf
  have hl5 : (vs.length : Int) ≤ 5 := by omega
  have hl3 : (fs.length : Int) ≤ 3 := by omega
  clear hv hf
  obtain ⟨inf, hi, hz0, hz1, hz2⟩ := info_parts strInfo
  obtain ⟨M, hM⟩ : ∃ M, M = vs.length := ⟨_, rfl⟩
  obtain ⟨N, hN⟩ : ∃ N, N = fs.length := ⟨_, rfl⟩
  have HM := hide hM
  have HN := hide hN
  rw [← hM] at h0 h5 hl5 ⊢
  rw [← hN] at h1 h3 hl3 ⊢
  clear hM hN
  go_enter Tryz.func76, Tryz.ntmps76
  go_wp2
  go_loop [3, 11] (fun s i => (i = .int .i64 0 ∧ s = .int .i64 0) ∨ (i = .int .i64 1 ∧ s = .int .i64 (M : Int)) ∨ (i = .int .i64 2 ∧ s = .int .i64 ((M + N : Nat) : Int))) (fun _ i => 2 - (intOf i).toNat)
  case atStart => exact .inl ⟨rfl, rfl⟩
  case round =>
    rcases hrel with ⟨rfl, rfl⟩ | ⟨rfl, rfl⟩ | ⟨rfl, rfl⟩
    · go_wp2
      go_round
      case rel => exact .inr (.inl ⟨by go_num, by go_num⟩)
      case measure => simp [intOf]
    · go_wp2
      go_round
      case rel => exact .inr (.inr ⟨by go_num, by go_num⟩)
      case measure => simp [intOf]
    · go_wp2_with fail
      rw [show ((M : Int) + (N : Int)) = ((M + N : Nat) : Int) from by omega]
      refine (Grow_c (M + N) (by omega) _).mono ?_
      rintro e w1 ⟨oa, cap, rfl, ho, hb⟩
      have HO := hide ho
      have HB := hide hb
      have k0 := (hb.cell (World.block_lt_of_cell? w _ h0)).trans h0
      have k1 := (hb.cell (World.block_lt_of_cell? w _ h1)).trans h1
      have hbl : b < w.heap.size := World.block_lt_of_cell? w _ h0
      have Q0 := hide h0
      have Q1 := hide h1
      clear ho hb h0 h1
      rw [show ((M + N : Nat) : Int) = ((M : Int) + (N : Int)) from by omega]
      go_wp2
      clear k0 k1
      go_loopw [6, 27] (fun s i wr => ∃ (oa : Option Addr) (cap : Nat), wr.cell? ⟨b, 0, none⟩ = some (.slice (some ⟨a1, 0, none⟩) M c1) ∧ wr.cell? ⟨b, 1, none⟩ = some (.slice (some ⟨a2, 0, none⟩) N c2) ∧ Below w.heap.size w wr ∧
        ((i = .int .i64 0 ∧ s = .slice oa 0 cap ∧ wr.ownsRow w.heap.size 9 1 (.slice oa 0 cap) 0 []) ∨ (i = .int .i64 1 ∧ s = .slice oa M cap ∧ wr.ownsRow w.heap.size 9 1 (.slice oa M cap) M (cellsS vs)) ∨ (i = .int .i64 2 ∧ s = .slice oa (M + N) cap ∧ wr.ownsRow w.heap.size 9 1 (.slice oa (M + N) cap) (M + N) (cellsS (vs ++ fs))))) (fun _ i _ => 2 - (intOf i).toNat)
      case atStart => exact ⟨oa, cap, ((unhide HB).cell (by exact hbl)).trans (unhide Q0), ((unhide HB).cell (by exact hbl)).trans (unhide Q1), unhide HB, .inl ⟨rfl, rfl, unhide HO⟩⟩
      case round =>
        clear HO HB
        obtain ⟨oa, cap, k0, k1, hb, hrel⟩ := hrel
        have HB := hide hb
        rcases hrel with ⟨rfl, rfl, ho⟩ | ⟨rfl, rfl, ho⟩ | ⟨rfl, rfl, ho⟩
        · have HO := hide ho
          have HS := hide ((unhide HV).call hb)
          clear ho hb
          go_wp2_with (at_builtin; refine wpList_app _ rfl _ _ 22 rfl w.heap.size 9 inf (.string ⟨#[]⟩) 1 16 Tryz.underlying22 hi hz0 hz1 hz2 rfl (by decide) _ _ _ rfl (unhide HO) ⟨a1, 0, none⟩ M c1 (cellsS vs) rfl (by rw [unhide HM]; simp [cellsS]) (unhide HS).news (cellsS_one _) (by unfold maxLen; omega) (by omega) (unhide HB).size ?_; intro oa' cap' w3 hown hgrow)
          rw [Nat.zero_add, List.nil_append] at hown
          exact ⟨⟨oa', cap', own_far (unhide HO) hgrow k0 hbl, own_far (unhide HO) hgrow k1 hbl, (unhide HB).grown hgrow (unhide HB).size (fun j hj => ((unhide HO).lt j hj).1), .inr (.inl ⟨rfl, rfl, hown⟩)⟩, by simp [intOf]⟩
        · have HO := hide ho
          have HS := hide ((unhide HF).call hb)
          clear ho hb
          go_wp2_with (at_builtin; refine wpList_app _ rfl _ _ 22 rfl w.heap.size 9 inf (.string ⟨#[]⟩) 1 16 Tryz.underlying22 hi hz0 hz1 hz2 rfl (by decide) _ _ _ rfl (unhide HO) ⟨a2, 0, none⟩ N c2 (cellsS fs) rfl (by rw [unhide HN]; simp [cellsS]) (unhide HS).news (cellsS_one _) (by unfold maxLen; omega) (by omega) (unhide HB).size ?_; intro oa' cap' w3 hown hgrow)
          rw [show cellsS vs ++ cellsS fs = cellsS (vs ++ fs) by simp [cellsS]] at hown
          exact ⟨⟨oa', cap', own_far (unhide HO) hgrow k0 hbl, own_far (unhide HO) hgrow k1 hbl, (unhide HB).grown hgrow (unhide HB).size (fun j hj => ((unhide HO).lt j hj).1), .inr (.inr ⟨rfl, rfl, hown⟩)⟩, by simp [intOf]⟩
        · have HO := hide ho
          clear ho hb
          go_wp2
          go_ret
          exact ⟨oa, cap, rfl, unhide HO, unhide HB⟩
end Go.Proofs.YthldhjifnpfmiaaGreatDoor
