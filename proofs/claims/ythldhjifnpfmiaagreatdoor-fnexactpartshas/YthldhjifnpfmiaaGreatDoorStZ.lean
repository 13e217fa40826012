/- Texts that go together: IntC, BoolC, StoC, StoD, StoE, StoF, StoG, StoH, StoI. -/
import Derived.Test.YthldhjifnpfmiaaGreatDoorIvsC
import Derived.Laws.OwnMore
import Derived.Deep.QuietTactic
import Derived.BigQuiet
import Derived.Test.YthldhjifnpfmiaaGreatDoorDeclC
import Derived.Test.YthldhjifnpfmiaaGreatDoorEnvE
import Derived.Test.YthldhjifnpfmiaaGreatDoorEnvH
/- Rows of numbers; the laws' copies of them. -/
namespace Go.Proofs.YthldhjifnpfmiaaGreatDoor
open Go.RowKit
set_option linter.unusedSimpArgs false

/-- So many numbers at an address. -/
def Ints (w : World) (a : Option Addr) (xs : List Int) : Prop :=
  xs.length ≤ 1048576 ∧ (xs.length = 0 ∨ ∃ cb co, a = some ⟨cb, co, none⟩ ∧ ∀ i, (h : i < xs.length) → w.cell? ⟨cb, co + i, none⟩ = some (.int .i64 xs[i]))
theorem Ints.to {w w1 : World} {a : Option Addr} {xs : List Int} {B : Nat} (h : Ints w a xs) (hb : Below B w w1) (ha : ∀ x, a = some x → 0 < xs.length → x.block < B) : Ints w1 a xs := by
  refine ⟨h.1, ?_⟩
  rcases h.2 with h0 | ⟨cb, co, rfl, hc⟩
  · exact .inl h0
  · exact .inr ⟨cb, co, rfl, fun i hi => (hb.cell (by exact ha ⟨cb, co, none⟩ rfl (by omega))).trans (hc i hi)⟩
theorem Ints.lt {w : World} {a : Option Addr} {xs : List Int} (h : Ints w a xs) : ∀ x, a = some x → 0 < xs.length → x.block < w.heap.size := by
  intro x hx h0
  rcases h.2 with h1 | ⟨cb, co, rfl, hc⟩
  · omega
  · cases hx
    exact World.block_lt_of_cell? w _ (hc 0 h0)
theorem Ints.call {w w1 : World} {a : Option Addr} {xs : List Int} (h : Ints w a xs) (hb : Below w.heap.size w w1) : Ints w1 a xs := h.to hb h.lt
/-- A row of numbers that fills a block of the call's own from its start. -/
def OwnI (w : World) (b : Nat) (xs : List Int) : Prop := Ints w (some ⟨b, 0, none⟩) xs ∧ (∀ o, w.frozen? ⟨b, o, none⟩ = false) ∧ b < w.heap.size
theorem OwnI.call {w w1 : World} {b : Nat} {xs : List Int} (h : OwnI w b xs) (hb : Below w.heap.size w w1) : OwnI w1 b xs :=
  ⟨h.1.call hb, fun o => (hb.frozen (by exact h.2.2)).trans (h.2.1 o), Nat.lt_of_lt_of_le h.2.2 hb.size⟩
theorem OwnI.set {w : World} {b c p : Nat} {v : Value} {xs : List Int} (h : OwnI w b xs) (hne : c ≠ b) : OwnI (w.setCell ⟨c, p, none⟩ v) b xs := by
  refine ⟨⟨h.1.1, ?_⟩, fun o => (World.frozen?_setCell _ _ _ _).trans (h.2.1 o), by simpa [World.setCell] using h.2.2⟩
  rcases h.1.2 with h0 | ⟨cb, co, e, hc⟩
  · exact .inl h0
  · cases e
    exact .inr ⟨b, 0, rfl, fun i hi => (World.cell?_setCell_other _ _ _ _ (fun e => hne (congrArg Addr.block e))).trans (hc i hi)⟩
/-- A row of the call's own that is filled up to k. -/
def FillI (w : World) (g : Nat) (zs : List Int) (k : Nat) (wr : World) : Prop :=
  (∀ i, (h : i < zs.length) → i < k → wr.cell? ⟨g, i, none⟩ = some (.int .i64 zs[i])) ∧ (∀ i, i < zs.length → k ≤ i → wr.cell? ⟨g, i, none⟩ = some (.int .i64 0)) ∧ (∀ o, wr.frozen? ⟨g, o, none⟩ = false) ∧ g < wr.heap.size ∧ w.heap.size ≤ g ∧ Below w.heap.size w wr
theorem FillI.step {w wr : World} {g k : Nat} {zs : List Int} (h : FillI w g zs k wr) (hk : k < zs.length) : FillI w g zs (k + 1) (wr.setCell ⟨g, k, none⟩ (.int .i64 zs[k])) := by
  obtain ⟨h1, h2, h3, h4, h5, h6⟩ := h
  have c := h2 k hk (Nat.le_refl _)
  refine ⟨fun i hi hik => ?_, fun i hi hik => ?_, fun o => (World.frozen?_setCell _ _ _ _).trans (h3 o), by simpa [World.setCell] using h4, h5, h6.setCell (by exact h5) _⟩
  · by_cases e : i = k
    · subst e
      exact World.cell?_setCell_same _ _ _ c
    · rw [World.cell?_setCell_other _ _ _ _ (fun hh => by have hh' : k = i := congrArg Addr.off hh; omega)]
      exact h1 i hi (by omega)
  · rw [World.cell?_setCell_other _ _ _ _ (fun hh => by have hh' : k = i := congrArg Addr.off hh; omega)]
    exact h2 i hi (by omega)
theorem i64Info : (Tryz.prog.info? 2).map (fun i => (i.zero, i.size, i.bytes)) = some (some (.int .i64 0), 1, 8) := by kernel_rfl
theorem makeI_c (n : Nat) (hn : n ≤ 1048576) (zs : List Int) (hz : zs.length = n) (w : World) : ∃ w1, (Instr.makeSlice 28 (.int .i64 (n : Int)) (.int .i64 (n : Int))).run Tryz.prog w = .ok (.slice (some ⟨w.heap.size, 0, none⟩) n n) w1 ∧ FillI w w.heap.size zs 0 w1 := by
  obtain ⟨inf, hi, hz0, hz1, hz2⟩ := info_parts i64Info
  obtain ⟨w1, hr, ho, hg⟩ := run_make_full (P := Tryz.prog) w w.heap.size 28 2 inf (.int .i64 0) 1 Tryz.underlying28 hi hz0 hz1 .i64 .i64 n (by rw [hz2]; omega) (by unfold maxLen; omega) (Nat.le_refl _)
  refine ⟨w1, hr, fun i hi h0 => by omega, fun i hi _ => ?_, fun o => ho.frozenAt o, (ho.lt w.heap.size rfl).2, Nat.le_refl _, (Below.refl _ _).grown hg (Nat.le_refl _) (fun j hj => by simp at hj)⟩
  rw [ho.cellAt i (by omega)]
  rw [show (Value.int .i64 0).cells = #[.int .i64 0] from rfl, toList_madeCells_one, List.getElem?_replicate, if_pos (by omega)]

set_option maxHeartbeats 400000 in
theorem toInt64S_c (a : Option Addr) (cap : Nat) (zs : List Int) (w : World) (h : Ints w a zs) : Calls Tryz.prog 34 #[.slice a zs.length cap] w fun e w' => e = .returned (.slice (some ⟨w.heap.size, 0, none⟩) zs.length zs.length) ∧ OwnI w' w.heap.size zs ∧ Below w.heap.size w w' := by
  have hl := h.1
  obtain ⟨L, hL⟩ : ∃ L, L = zs.length := ⟨_, rfl⟩
  rw [← hL] at hl ⊢
  have HL := hide hL
  have HH := hide h
  obtain ⟨w1, hmk, hf⟩ := makeI_c L hl zs hL.symm w
  have HF := hide hf
  have hl' : (L : Int) ≤ 1048576 := by omega
  clear h hL hf
  go_enter Tryz.func34, Tryz.ntmps34
  go_wp2
  go_loopw [4] (fun i wr => ∃ k : Nat, k ≤ L ∧ i = .int .i64 k ∧ FillI w w.heap.size zs k wr) (fun i _ => L - (intOf i).toNat)
  case atStart => exact ⟨0, Nat.zero_le _, rfl, unhide HF⟩
  case round =>
    clear HF hmk
    obtain ⟨k, hk, rfl, hf⟩ := hrel
    by_cases hlt : k < L
    · have hk' : k < zs.length := by rw [← unhide HL]; exact hlt
      have HS := hide (hf.step hk')
      obtain ⟨s, hs⟩ : ∃ s, s = zs[k] := ⟨_, rfl⟩
      rcases (unhide HH).2 with h0 | ⟨cb, co, rfl, hc⟩
      · omega
      have hlt' := (unhide HH).lt ⟨cb, co, none⟩ rfl (by omega)
      have c : wr.cell? ⟨cb, co + k, none⟩ = some (.int .i64 s) := (hf.2.2.2.2.2.cell (by exact hlt')).trans (by rw [hs]; exact hc k hk')
      have c2 := hf.2.1 k hk' (Nat.le_refl _)
      have f2 := hf.2.2.1 k
      rw [← hs] at HS
      clear hs hc hf
      go_wp2
      go_roundw
      case rel => exact ⟨k + 1, by omega, by go_num, unhide HS⟩
      case measure => simp [intOf]; omega
    · obtain rfl : k = L := by omega
      have HF := hide hf
      clear hf
      go_wp2
      go_ret
      refine ⟨rfl, ⟨⟨by rw [← unhide HL]; exact hl, .inr ⟨w.heap.size, 0, rfl, fun i hi => ?_⟩⟩, (unhide HF).2.2.1, (unhide HF).2.2.2.1⟩, (unhide HF).2.2.2.2.2⟩
      rw [Nat.zero_add]
      exact (unhide HF).1 i hi (by rw [unhide HL]; exact hi)

set_option maxHeartbeats 400000 in
theorem eqInt64S_c (a b : Option Addr) (c d : Nat) (zs : List Int) (w : World) (h : Ints w a zs) (h2 : Ints w b zs) : Calls Tryz.prog 46 #[.slice a zs.length c, .slice b zs.length d] w fun e w' => e = .returned (.bool true) ∧ ∃ m, w' = w.drewN m := by
  have hl := h.1
  obtain ⟨L, hL⟩ : ∃ L, L = zs.length := ⟨_, rfl⟩
  rw [← hL] at hl ⊢
  have HL := hide hL
  have HH := hide h
  have HG := hide h2
  have hl' : (L : Int) ≤ 1048576 := by omega
  clear h h2 hL
  go_enter Tryz.func46, Tryz.ntmps46
  go_wp2
  go_loopw [5] (fun i wr => ∃ k m : Nat, k ≤ L ∧ i = .int .i64 k ∧ wr = w.drewN m) (fun i _ => L - (intOf i).toNat)
  case atStart => exact ⟨0, 0, Nat.zero_le _, rfl, rfl⟩
  case round =>
    obtain ⟨k, m, hk, rfl, rfl⟩ := hrel
    by_cases hlt : k < L
    · have hk' : k < zs.length := by rw [← unhide HL]; exact hlt
      obtain ⟨s, hs⟩ : ∃ s, s = zs[k] := ⟨_, rfl⟩
      rcases (unhide HH).2 with h0 | ⟨cb, co, rfl, hc⟩
      · omega
      rcases (unhide HG).2 with h0 | ⟨eb, eo, rfl, hd⟩
      · omega
      have c1 := hc k hk'
      have c2 := hd k hk'
      rw [← hs] at c1 c2
      clear hs hc hd
      go_wp2
      go_quiet (fail)
      go_wp2
      go_roundw
      case rel => exact ⟨k + 1, _, by omega, by go_num, rfl⟩
      case measure => simp [intOf]; omega
    · go_wp2
      go_ret
      exact ⟨rfl, _, rfl⟩
end Go.Proofs.YthldhjifnpfmiaaGreatDoor

/- Rows of truths; the laws' copies of them. -/
namespace Go.Proofs.YthldhjifnpfmiaaGreatDoor
open Go.RowKit
set_option linter.unusedSimpArgs false

/-- So many truths at an address. -/
def Bools (w : World) (a : Option Addr) (xs : List Bool) : Prop :=
  xs.length ≤ 1048576 ∧ (xs.length = 0 ∨ ∃ cb co, a = some ⟨cb, co, none⟩ ∧ ∀ i, (h : i < xs.length) → w.cell? ⟨cb, co + i, none⟩ = some (.bool xs[i]))
theorem Bools.to {w w1 : World} {a : Option Addr} {xs : List Bool} {B : Nat} (h : Bools w a xs) (hb : Below B w w1) (ha : ∀ x, a = some x → 0 < xs.length → x.block < B) : Bools w1 a xs := by
  refine ⟨h.1, ?_⟩
  rcases h.2 with h0 | ⟨cb, co, rfl, hc⟩
  · exact .inl h0
  · exact .inr ⟨cb, co, rfl, fun i hi => (hb.cell (by exact ha ⟨cb, co, none⟩ rfl (by omega))).trans (hc i hi)⟩
theorem Bools.lt {w : World} {a : Option Addr} {xs : List Bool} (h : Bools w a xs) : ∀ x, a = some x → 0 < xs.length → x.block < w.heap.size := by
  intro x hx h0
  rcases h.2 with h1 | ⟨cb, co, rfl, hc⟩
  · omega
  · cases hx
    exact World.block_lt_of_cell? w _ (hc 0 h0)
theorem Bools.call {w w1 : World} {a : Option Addr} {xs : List Bool} (h : Bools w a xs) (hb : Below w.heap.size w w1) : Bools w1 a xs := h.to hb h.lt
/-- A row of truths that fills a block of the call's own from its start. -/
def OwnB (w : World) (b : Nat) (xs : List Bool) : Prop := Bools w (some ⟨b, 0, none⟩) xs ∧ (∀ o, w.frozen? ⟨b, o, none⟩ = false) ∧ b < w.heap.size
theorem OwnB.call {w w1 : World} {b : Nat} {xs : List Bool} (h : OwnB w b xs) (hb : Below w.heap.size w w1) : OwnB w1 b xs :=
  ⟨h.1.call hb, fun o => (hb.frozen (by exact h.2.2)).trans (h.2.1 o), Nat.lt_of_lt_of_le h.2.2 hb.size⟩
theorem OwnB.set {w : World} {b c p : Nat} {v : Value} {xs : List Bool} (h : OwnB w b xs) (hne : c ≠ b) : OwnB (w.setCell ⟨c, p, none⟩ v) b xs := by
  refine ⟨⟨h.1.1, ?_⟩, fun o => (World.frozen?_setCell _ _ _ _).trans (h.2.1 o), by simpa [World.setCell] using h.2.2⟩
  rcases h.1.2 with h0 | ⟨cb, co, e, hc⟩
  · exact .inl h0
  · cases e
    exact .inr ⟨b, 0, rfl, fun i hi => (World.cell?_setCell_other _ _ _ _ (fun e => hne (congrArg Addr.block e))).trans (hc i hi)⟩
/-- A row of the call's own that is filled up to k. -/
def FillB (w : World) (g : Nat) (zs : List Bool) (k : Nat) (wr : World) : Prop :=
  (∀ i, (h : i < zs.length) → i < k → wr.cell? ⟨g, i, none⟩ = some (.bool zs[i])) ∧ (∀ i, i < zs.length → k ≤ i → wr.cell? ⟨g, i, none⟩ = some (.bool false)) ∧ (∀ o, wr.frozen? ⟨g, o, none⟩ = false) ∧ g < wr.heap.size ∧ w.heap.size ≤ g ∧ Below w.heap.size w wr
theorem FillB.step {w wr : World} {g k : Nat} {zs : List Bool} (h : FillB w g zs k wr) (hk : k < zs.length) : FillB w g zs (k + 1) (wr.setCell ⟨g, k, none⟩ (.bool zs[k])) := by
  obtain ⟨h1, h2, h3, h4, h5, h6⟩ := h
  have c := h2 k hk (Nat.le_refl _)
  refine ⟨fun i hi hik => ?_, fun i hi hik => ?_, fun o => (World.frozen?_setCell _ _ _ _).trans (h3 o), by simpa [World.setCell] using h4, h5, h6.setCell (by exact h5) _⟩
  · by_cases e : i = k
    · subst e
      exact World.cell?_setCell_same _ _ _ c
    · rw [World.cell?_setCell_other _ _ _ _ (fun hh => by have hh' : k = i := congrArg Addr.off hh; omega)]
      exact h1 i hi (by omega)
  · rw [World.cell?_setCell_other _ _ _ _ (fun hh => by have hh' : k = i := congrArg Addr.off hh; omega)]
    exact h2 i hi (by omega)
theorem boolInfo : (Tryz.prog.info? 4).map (fun i => (i.zero, i.size, i.bytes)) = some (some (.bool false), 1, 1) := by kernel_rfl
theorem makeB_c (n : Nat) (hn : n ≤ 1048576) (zs : List Bool) (hz : zs.length = n) (w : World) : ∃ w1, (Instr.makeSlice 29 (.int .i64 (n : Int)) (.int .i64 (n : Int))).run Tryz.prog w = .ok (.slice (some ⟨w.heap.size, 0, none⟩) n n) w1 ∧ FillB w w.heap.size zs 0 w1 := by
  obtain ⟨inf, hi, hz0, hz1, hz2⟩ := info_parts boolInfo
  obtain ⟨w1, hr, ho, hg⟩ := run_make_full (P := Tryz.prog) w w.heap.size 29 4 inf (.bool false) 1 Tryz.underlying29 hi hz0 hz1 .i64 .i64 n (by rw [hz2]; omega) (by unfold maxLen; omega) (Nat.le_refl _)
  refine ⟨w1, hr, fun i hi h0 => by omega, fun i hi _ => ?_, fun o => ho.frozenAt o, (ho.lt w.heap.size rfl).2, Nat.le_refl _, (Below.refl _ _).grown hg (Nat.le_refl _) (fun j hj => by simp at hj)⟩
  rw [ho.cellAt i (by omega)]
  rw [show (Value.bool false).cells = #[.bool false] from rfl, toList_madeCells_one, List.getElem?_replicate, if_pos (by omega)]

set_option maxHeartbeats 400000 in
theorem toBoolS_c (a : Option Addr) (cap : Nat) (zs : List Bool) (w : World) (h : Bools w a zs) : Calls Tryz.prog 35 #[.slice a zs.length cap] w fun e w' => e = .returned (.slice (some ⟨w.heap.size, 0, none⟩) zs.length zs.length) ∧ OwnB w' w.heap.size zs ∧ Below w.heap.size w w' := by
  have hl := h.1
  obtain ⟨L, hL⟩ : ∃ L, L = zs.length := ⟨_, rfl⟩
  rw [← hL] at hl ⊢
  have HL := hide hL
  have HH := hide h
  obtain ⟨w1, hmk, hf⟩ := makeB_c L hl zs hL.symm w
  have HF := hide hf
  have hl' : (L : Int) ≤ 1048576 := by omega
  clear h hL hf
  go_enter Tryz.func35, Tryz.ntmps35
  go_wp2
  go_loopw [4] (fun i wr => ∃ k : Nat, k ≤ L ∧ i = .int .i64 k ∧ FillB w w.heap.size zs k wr) (fun i _ => L - (intOf i).toNat)
  case atStart => exact ⟨0, Nat.zero_le _, rfl, unhide HF⟩
  case round =>
    clear HF hmk
    obtain ⟨k, hk, rfl, hf⟩ := hrel
    by_cases hlt : k < L
    · have hk' : k < zs.length := by rw [← unhide HL]; exact hlt
      have HS := hide (hf.step hk')
      obtain ⟨s, hs⟩ : ∃ s, s = zs[k] := ⟨_, rfl⟩
      rcases (unhide HH).2 with h0 | ⟨cb, co, rfl, hc⟩
      · omega
      have hlt' := (unhide HH).lt ⟨cb, co, none⟩ rfl (by omega)
      have c : wr.cell? ⟨cb, co + k, none⟩ = some (.bool s) := (hf.2.2.2.2.2.cell (by exact hlt')).trans (by rw [hs]; exact hc k hk')
      have c2 := hf.2.1 k hk' (Nat.le_refl _)
      have f2 := hf.2.2.1 k
      rw [← hs] at HS
      clear hs hc hf
      go_wp2
      go_roundw
      case rel => exact ⟨k + 1, by omega, by go_num, unhide HS⟩
      case measure => simp [intOf]; omega
    · obtain rfl : k = L := by omega
      have HF := hide hf
      clear hf
      go_wp2
      go_ret
      refine ⟨rfl, ⟨⟨by rw [← unhide HL]; exact hl, .inr ⟨w.heap.size, 0, rfl, fun i hi => ?_⟩⟩, (unhide HF).2.2.1, (unhide HF).2.2.2.1⟩, (unhide HF).2.2.2.2.2⟩
      rw [Nat.zero_add]
      exact (unhide HF).1 i hi (by rw [unhide HL]; exact hi)

set_option maxHeartbeats 400000 in
theorem eqBoolS_c (a b : Option Addr) (c d : Nat) (zs : List Bool) (w : World) (h : Bools w a zs) (h2 : Bools w b zs) : Calls Tryz.prog 47 #[.slice a zs.length c, .slice b zs.length d] w fun e w' => e = .returned (.bool true) ∧ ∃ m, w' = w.drewN m := by
  have hl := h.1
  obtain ⟨L, hL⟩ : ∃ L, L = zs.length := ⟨_, rfl⟩
  rw [← hL] at hl ⊢
  have HL := hide hL
  have HH := hide h
  have HG := hide h2
  have hl' : (L : Int) ≤ 1048576 := by omega
  clear h h2 hL
  go_enter Tryz.func47, Tryz.ntmps47
  go_wp2
  go_loopw [5] (fun i wr => ∃ k m : Nat, k ≤ L ∧ i = .int .i64 k ∧ wr = w.drewN m) (fun i _ => L - (intOf i).toNat)
  case atStart => exact ⟨0, 0, Nat.zero_le _, rfl, rfl⟩
  case round =>
    obtain ⟨k, m, hk, rfl, rfl⟩ := hrel
    by_cases hlt : k < L
    · have hk' : k < zs.length := by rw [← unhide HL]; exact hlt
      obtain ⟨s, hs⟩ : ∃ s, s = zs[k] := ⟨_, rfl⟩
      rcases (unhide HH).2 with h0 | ⟨cb, co, rfl, hc⟩
      · omega
      rcases (unhide HG).2 with h0 | ⟨eb, eo, rfl, hd⟩
      · omega
      have c1 := hc k hk'
      have c2 := hd k hk'
      rw [← hs] at c1 c2
      clear hs hc hd
      go_wp2
      go_quiet (fail)
      go_wp2
      go_roundw
      case rel => exact ⟨k + 1, _, by omega, by go_num, rfl⟩
      case measure => simp [intOf]; omega
    · go_wp2
      go_ret
      exact ⟨rfl, _, rfl⟩
end Go.Proofs.YthldhjifnpfmiaaGreatDoor

/- How much of a size is left behind rows of numbers and of truths. -/
namespace Go.Proofs.YthldhjifnpfmiaaGreatDoor
open Go.RowKit
set_option linter.unusedSimpArgs false

theorem szInt64S_c (a : Option Addr) (n cap : Nat) (left : Int) (hn : n ≤ 9223372036854775807) (h0 : 0 ≤ left) (h1 : left ≤ 1048576) (w : World) : Calls Tryz.prog 21 #[.slice a n cap, .int .i64 left] w fun e w' => e = .returned (.int .i64 (sz1 n left)) ∧ w' = w := by
  have hn' : (n : Int) ≤ 9223372036854775807 := by omega
  unfold sz1
  by_cases hm : left - n < 0
  · rw [if_pos hm]
    go_enter Tryz.func21, Tryz.ntmps21
    go_wp2
    go_ret
    exact ⟨rfl, rfl⟩
  · rw [if_neg hm]
    go_enter Tryz.func21, Tryz.ntmps21
    go_wp2
    go_ret
    exact ⟨rfl, rfl⟩
theorem szBoolS_c (a : Option Addr) (n cap : Nat) (left : Int) (hn : n ≤ 9223372036854775807) (h0 : 0 ≤ left) (h1 : left ≤ 1048576) (w : World) : Calls Tryz.prog 22 #[.slice a n cap, .int .i64 left] w fun e w' => e = .returned (.int .i64 (sz1 n left)) ∧ w' = w := by
  have hn' : (n : Int) ≤ 9223372036854775807 := by omega
  unfold sz1
  by_cases hm : left - n < 0
  · rw [if_pos hm]
    go_enter Tryz.func22, Tryz.ntmps22
    go_wp2
    go_ret
    exact ⟨rfl, rfl⟩
  · rw [if_neg hm]
    go_enter Tryz.func22, Tryz.ntmps22
    go_wp2
    go_ret
    exact ⟨rfl, rfl⟩
end Go.Proofs.YthldhjifnpfmiaaGreatDoor

/- Rows of rows of numbers; the laws' copies of them. -/
namespace Go.Proofs.YthldhjifnpfmiaaGreatDoor
open Go.RowKit
set_option linter.unusedSimpArgs false

/-- So many rows of numbers at an address. -/
def Mats (w : World) (a : Option Addr) (xss : List (List Int)) : Prop :=
  xss.length ≤ 1048576 ∧ (xss.length = 0 ∨ ∃ cb co, a = some ⟨cb, co, none⟩ ∧ ∀ i, (h : i < xss.length) → ∃ b c, w.cell? ⟨cb, co + i, none⟩ = some (.slice b xss[i].length c) ∧ Ints w b xss[i])
theorem Mats.call {w w1 : World} {a : Option Addr} {xss : List (List Int)} (h : Mats w a xss) (hb : Below w.heap.size w w1) : Mats w1 a xss := by
  refine ⟨h.1, ?_⟩
  rcases h.2 with h0 | ⟨cb, co, rfl, hc⟩
  · exact .inl h0
  · refine .inr ⟨cb, co, rfl, fun i hi => ?_⟩
    obtain ⟨b, c, h1, h2⟩ := hc i hi
    exact ⟨b, c, (hb.cell (World.block_lt_of_cell? w _ h1)).trans h1, h2.call hb⟩
/-- A row of rows of the call's own that is filled up to k. -/
def FillJ (w : World) (g : Nat) (zss : List (List Int)) (k : Nat) (wr : World) : Prop :=
  (∀ i, (h : i < zss.length) → i < k → ∃ gi, g < gi ∧ wr.cell? ⟨g, i, none⟩ = some (.slice (some ⟨gi, 0, none⟩) zss[i].length zss[i].length) ∧ OwnI wr gi zss[i]) ∧ (∀ i, i < zss.length → k ≤ i → wr.cell? ⟨g, i, none⟩ = some (.slice none 0 0)) ∧ (∀ o, wr.frozen? ⟨g, o, none⟩ = false) ∧ g < wr.heap.size ∧ w.heap.size ≤ g ∧ Below w.heap.size w wr
theorem FillJ.call {w wr w1 : World} {g k : Nat} {zss : List (List Int)} (h : FillJ w g zss k wr) (hb : Below wr.heap.size wr w1) : FillJ w g zss k w1 := by
  obtain ⟨h1, h2, h3, h4, h5, h6⟩ := h
  have c : ∀ o, w1.cell? ⟨g, o, none⟩ = wr.cell? ⟨g, o, none⟩ := fun o => hb.cell (by exact h4)
  refine ⟨fun i hi hk => ?_, fun i hi hk => by rw [c]; exact h2 i hi hk, fun o => (hb.frozen (by exact h4)).trans (h3 o), Nat.lt_of_lt_of_le h4 hb.size, h5, h6.trans (hb.mono h6.size)⟩
  obtain ⟨gi, q0, q1, q2⟩ := h1 i hi hk
  exact ⟨gi, q0, by rw [c]; exact q1, q2.call hb⟩
theorem FillJ.step {w wr : World} {g k gk : Nat} {zss : List (List Int)} (h : FillJ w g zss k wr) (hk : k < zss.length) (hg : g < gk) (ho : OwnI wr gk zss[k]) : FillJ w g zss (k + 1) (wr.setCell ⟨g, k, none⟩ (.slice (some ⟨gk, 0, none⟩) zss[k].length zss[k].length)) := by
  obtain ⟨h1, h2, h3, h4, h5, h6⟩ := h
  have c := h2 k hk (Nat.le_refl _)
  refine ⟨fun i hi hik => ?_, fun i hi hik => ?_, fun o => (World.frozen?_setCell _ _ _ _).trans (h3 o), by simpa [World.setCell] using h4, h5, h6.setCell (by exact h5) _⟩
  · by_cases e : i = k
    · subst e
      exact ⟨gk, hg, World.cell?_setCell_same _ _ _ c, ho.set (by omega)⟩
    · obtain ⟨gi, q0, q1, q2⟩ := h1 i hi (by omega)
      refine ⟨gi, q0, ?_, q2.set (by omega)⟩
      rw [World.cell?_setCell_other _ _ _ _ (fun hh => by have hh' : k = i := congrArg Addr.off hh; omega)]
      exact q1
  · rw [World.cell?_setCell_other _ _ _ _ (fun hh => by have hh' : k = i := congrArg Addr.off hh; omega)]
    exact h2 i hi (by omega)
theorem matInfo : (Tryz.prog.info? 28).map (fun i => (i.zero, i.size, i.bytes)) = some (some (.slice none 0 0), 1, 24) := by kernel_rfl
theorem makeJ_c (n : Nat) (hn : n ≤ 1048576) (zss : List (List Int)) (hz : zss.length = n) (w : World) : ∃ w1, (Instr.makeSlice 30 (.int .i64 (n : Int)) (.int .i64 (n : Int))).run Tryz.prog w = .ok (.slice (some ⟨w.heap.size, 0, none⟩) n n) w1 ∧ FillJ w w.heap.size zss 0 w1 := by
  obtain ⟨inf, hi, hz0, hz1, hz2⟩ := info_parts matInfo
  obtain ⟨w1, hr, ho, hg⟩ := run_make_full (P := Tryz.prog) w w.heap.size 30 28 inf (.slice none 0 0) 1 Tryz.underlying30 hi hz0 hz1 .i64 .i64 n (by rw [hz2]; omega) (by unfold maxLen; omega) (Nat.le_refl _)
  refine ⟨w1, hr, fun i hi h0 => by omega, fun i hi _ => ?_, fun o => ho.frozenAt o, (ho.lt w.heap.size rfl).2, Nat.le_refl _, (Below.refl _ _).grown hg (Nat.le_refl _) (fun j hj => by simp at hj)⟩
  rw [ho.cellAt i (by omega)]
  rw [show (Value.slice none 0 0).cells = #[.slice none 0 0] from rfl, toList_madeCells_one, List.getElem?_replicate, if_pos (by omega)]
/-- A row of rows of the call's own. -/
def OwnJ (w : World) (b : Nat) (xss : List (List Int)) : Prop := xss.length ≤ 1048576 ∧ (∀ i, (h : i < xss.length) → ∃ gi, b < gi ∧ w.cell? ⟨b, i, none⟩ = some (.slice (some ⟨gi, 0, none⟩) xss[i].length xss[i].length) ∧ OwnI w gi xss[i]) ∧ (∀ o, w.frozen? ⟨b, o, none⟩ = false) ∧ b < w.heap.size
set_option maxHeartbeats 1000000 in
theorem toInt64SS_c (a : Option Addr) (cap : Nat) (zss : List (List Int)) (w : World) (h : Mats w a zss) : Calls Tryz.prog 36 #[.slice a zss.length cap] w fun e w' => e = .returned (.slice (some ⟨w.heap.size, 0, none⟩) zss.length zss.length) ∧ OwnJ w' w.heap.size zss ∧ Below w.heap.size w w' := by
  have hl := h.1
  obtain ⟨L, hL⟩ : ∃ L, L = zss.length := ⟨_, rfl⟩
  rw [← hL] at hl ⊢
  have HL := hide hL
  have HH := hide h
  obtain ⟨w1, hmk, hf⟩ := makeJ_c L hl zss hL.symm w
  have HF := hide hf
  have hl' : (L : Int) ≤ 1048576 := by omega
  clear h hL hf
  go_enter Tryz.func36, Tryz.ntmps36
  go_wp2
  go_loopw [4] (fun i wr => ∃ k : Nat, k ≤ L ∧ i = .int .i64 k ∧ FillJ w w.heap.size zss k wr) (fun i _ => L - (intOf i).toNat)
  case atStart => exact ⟨0, Nat.zero_le _, rfl, unhide HF⟩
  case round =>
    clear HF hmk
    obtain ⟨k, hk, rfl, hf⟩ := hrel
    by_cases hlt : k < L
    · have hk' : k < zss.length := by rw [← unhide HL]; exact hlt
      rcases ((unhide HH).call hf.2.2.2.2.2).2 with h0 | ⟨cb, co, rfl, hc⟩
      · omega
      obtain ⟨b, c, d1, d2⟩ := hc k hk'
      have HD := hide d2
      have HQ := hide hf
      clear hc hf d2
      go_wp2_with fail
      refine (toInt64S_c b c zss[k] _ (unhide HD)).mono ?_
      rintro e w2 ⟨rfl, ho, hb⟩
      have hf := (unhide HQ).call hb
      have HS := hide (hf.step hk' (unhide HQ).2.2.2.1 ho)
      have c2 := hf.2.1 k hk' (Nat.le_refl _)
      have f2 := hf.2.2.1 k
      clear hf hb ho HQ d1
      go_wp2
      go_roundw
      case rel => exact ⟨k + 1, by omega, by go_num, unhide HS⟩
      case measure => simp [intOf]; omega
    · obtain rfl : k = L := by omega
      have HF := hide hf
      clear hf
      go_wp2
      go_ret
      exact ⟨rfl, ⟨by rw [← unhide HL]; exact hl, fun i hi => (unhide HF).1 i hi (by rw [unhide HL]; exact hi), (unhide HF).2.2.1, (unhide HF).2.2.2.1⟩, (unhide HF).2.2.2.2.2⟩
end Go.Proofs.YthldhjifnpfmiaaGreatDoor

/- Rows of rows of numbers: compared, and how much of a size is left behind them. -/
namespace Go.Proofs.YthldhjifnpfmiaaGreatDoor
open Go.RowKit
set_option linter.unusedSimpArgs false

theorem OwnJ.mats {w : World} {b : Nat} {xss : List (List Int)} (h : OwnJ w b xss) : Mats w (some ⟨b, 0, none⟩) xss :=
  ⟨h.1, .inr ⟨b, 0, rfl, fun i hi => by obtain ⟨gi, _, q1, q2⟩ := h.2.1 i hi; exact ⟨_, _, by rw [Nat.zero_add]; exact q1, q2.1⟩⟩⟩
theorem OwnJ.call {w w1 : World} {b : Nat} {xss : List (List Int)} (h : OwnJ w b xss) (hb : Below w.heap.size w w1) : OwnJ w1 b xss := by
  obtain ⟨h0, h1, h3, h4⟩ := h
  refine ⟨h0, fun i hi => ?_, fun o => (hb.frozen (by exact h4)).trans (h3 o), Nat.lt_of_lt_of_le h4 hb.size⟩
  obtain ⟨gi, q0, q1, q2⟩ := h1 i hi
  exact ⟨gi, q0, (hb.cell (by exact h4)).trans q1, q2.call hb⟩
theorem OwnJ.set {w : World} {b c p : Nat} {v : Value} {xss : List (List Int)} (h : OwnJ w b xss) (hne : c < b) : OwnJ (w.setCell ⟨c, p, none⟩ v) b xss := by
  obtain ⟨h0, h1, h3, h4⟩ := h
  refine ⟨h0, fun i hi => ?_, fun o => (World.frozen?_setCell _ _ _ _).trans (h3 o), by simpa [World.setCell] using h4⟩
  obtain ⟨gi, q0, q1, q2⟩ := h1 i hi
  exact ⟨gi, q0, (World.cell?_setCell_other _ _ _ _ (fun e => by have : c = b := congrArg Addr.block e; omega)).trans q1, q2.set (by omega)⟩
set_option maxHeartbeats 1000000 in
theorem eqInt64SS_c (a b : Option Addr) (c d : Nat) (zss : List (List Int)) (w : World) (h : Mats w a zss) (h2 : Mats w b zss) : Calls Tryz.prog 48 #[.slice a zss.length c, .slice b zss.length d] w fun e w' => e = .returned (.bool true) ∧ Below w.heap.size w w' := by
  have hl := h.1
  obtain ⟨L, hL⟩ : ∃ L, L = zss.length := ⟨_, rfl⟩
  rw [← hL] at hl ⊢
  have HL := hide hL
  have HH := hide h
  have HG := hide h2
  have hl' : (L : Int) ≤ 1048576 := by omega
  clear h h2 hL
  go_enter Tryz.func48, Tryz.ntmps48
  go_wp2
  go_loopw [5] (fun i wr => ∃ k : Nat, k ≤ L ∧ i = .int .i64 k ∧ Below w.heap.size w wr) (fun i _ => L - (intOf i).toNat)
  case atStart => exact ⟨0, Nat.zero_le _, rfl, Below.refl _ _⟩
  case round =>
    obtain ⟨k, hk, rfl, hb⟩ := hrel
    have HB := hide hb
    by_cases hlt : k < L
    · have hk' : k < zss.length := by rw [← unhide HL]; exact hlt
      rcases ((unhide HH).call hb).2 with h0 | ⟨cb, co, rfl, hc⟩
      · omega
      rcases ((unhide HG).call hb).2 with h0 | ⟨eb, eo, rfl, hd⟩
      · omega
      obtain ⟨ba, bc, c1, i1⟩ := hc k hk'
      obtain ⟨da, dc, c2, i2⟩ := hd k hk'
      have I1 := hide i1
      have I2 := hide i2
      have hk2 : H2 w ⟨cb, co + k, none⟩ ⟨eb, eo + k, none⟩ (.slice ba zss[k].length bc) (.slice da zss[k].length dc) wr := ⟨c1, c2, hb⟩
      clear hc hd hb i1 i2
      go_wp2
      go_region_held3 (H2 w ⟨cb, co + k, none⟩ ⟨eb, eo + k, none⟩ (.slice ba zss[k].length bc) (.slice da zss[k].length dc))
        (first | exact H2.drew (by assumption) | exact hq)
        (first | (go_at_call 46; refine (eqInt64S_c ba da bc dc zss[k] _ ((unhide I1).call (bdrew wr 1)) ((unhide I2).call (bdrew wr 1))).mono ?_; rintro e w1 ⟨rfl, m, rfl⟩; have hq := H2.call (bdrew wr (1 + m)) hk2))
      have HQ := hide hq.2.2
      clear hq hk2 c1 c2
      rename_i hHeld
      clear hHeld
      go_wp2
      go_roundw
      case rel => exact ⟨k + 1, by omega, by go_num, unhide HQ⟩
      case measure => simp [intOf]; omega
    · clear hb
      go_wp2
      go_ret
      exact ⟨rfl, unhide HB⟩
end Go.Proofs.YthldhjifnpfmiaaGreatDoor

/- Stores: the laws' copies of them. -/
namespace Go.Proofs.YthldhjifnpfmiaaGreatDoor
open Go.RowKit
set_option linter.unusedSimpArgs false

set_option maxHeartbeats 2000000 in
theorem toStore_c (ia ba ja : Option Addr) (ic bc jc : Nat) (is : List Int) (bs : List Bool) (js : List (List Int)) (w : World) (hi : Ints w ia is) (hb : Bools w ba bs) (hj : Mats w ja js) :
    Calls Tryz.prog 12 #[.agg #[.slice ia is.length ic, .slice ba bs.length bc, .slice ja js.length jc]] w fun e w' => ∃ b1 b2 b3, e = .returned (.agg #[.slice (some ⟨b1, 0, none⟩) is.length is.length, .slice (some ⟨b2, 0, none⟩) bs.length bs.length, .slice (some ⟨b3, 0, none⟩) js.length js.length]) ∧ OwnI w' b1 is ∧ OwnB w' b2 bs ∧ OwnJ w' b3 js ∧ (w.heap.size ≤ b1 ∧ b1 < b2 ∧ b2 < b3) ∧ Below w.heap.size w w' := by
  have Xhi := hide hi
  have Xhb := hide hb
  have Xhj := hide hj
  have T0 := ((C3.new w (.slice ia is.length ic) (.slice ba bs.length bc) (.slice ja js.length jc) 32).alloc (Obj.cells #[.slice none 0 0, .slice none 0 0, .slice none 0 0] 46)).alloc (Obj.cells #[.slice none 0 0, .slice none 0 0, .slice none 0 0] 46)
  have T1 := (C3.new (w.alloc (Obj.cells #[.slice ia is.length ic, .slice ba bs.length bc, .slice ja js.length jc] 32)) (.slice none 0 0) (.slice none 0 0) (.slice none 0 0) 46).alloc (Obj.cells #[.slice none 0 0, .slice none 0 0, .slice none 0 0] 46)
  have T2 := C3.new ((w.alloc (Obj.cells #[.slice ia is.length ic, .slice ba bs.length bc, .slice ja js.length jc] 32)).alloc (Obj.cells #[.slice none 0 0, .slice none 0 0, .slice none 0 0] 46)) (.slice none 0 0) (.slice none 0 0) (.slice none 0 0) 46
  have K0 : Below w.heap.size w (((w.alloc (Obj.cells #[.slice ia is.length ic, .slice ba bs.length bc, .slice ja js.length jc] 32)).alloc (Obj.cells #[.slice none 0 0, .slice none 0 0, .slice none 0 0] 46)).alloc (Obj.cells #[.slice none 0 0, .slice none 0 0, .slice none 0 0] 46)) := ((Below.refl _ _).alloc (Nat.le_refl _) _).alloc (by simp) _ |>.alloc (by simp; omega) _
  rw [show (w.alloc (Obj.cells #[.slice ia is.length ic, .slice ba bs.length bc, .slice ja js.length jc] 32)).heap.size = w.heap.size + 1 by simp] at T1
  rw [show ((w.alloc (Obj.cells #[.slice ia is.length ic, .slice ba bs.length bc, .slice ja js.length jc] 32)).alloc (Obj.cells #[.slice none 0 0, .slice none 0 0, .slice none 0 0] 46)).heap.size = w.heap.size + 2 by simp] at T2
  have HT0 := hide T0
  have HT1 := hide T1
  have HT2 := hide T2
  have HK := hide K0
  clear T0 T1 T2 K0 hi hb hj
  go_enter Tryz.func12, Tryz.ntmps12
  go_wp2_with fail
  generalize ((w.alloc (Obj.cells #[.slice ia is.length ic, .slice ba bs.length bc, .slice ja js.length jc] 32)).alloc (Obj.cells #[.slice none 0 0, .slice none 0 0, .slice none 0 0] 46)).alloc (Obj.cells #[.slice none 0 0, .slice none 0 0, .slice none 0 0] 46) = u0 at HT0 HT1 HT2 HK ⊢
  refine (toInt64S_c _ _ is _ ((unhide Xhi).call (unhide HK))).mono ?_
  rintro e u1 ⟨rfl, R1, kb⟩
  have lu1 := hide (unhide HT2).lt
  have HT0 := hide ((unhide HT0).call kb)
  have HT1 := hide ((unhide HT1).call kb)
  have HT2 := hide ((unhide HT2).call kb)
  have HK := hide ((unhide HK).trans (kb.mono (unhide HK).size))
  have HR1 := hide R1
  clear R1 kb
  obtain ⟨b1, hb1⟩ : ∃ b, b = u0.heap.size := ⟨_, rfl⟩
  rw [← hb1] at HR1 ⊢
  have lw1 : w.heap.size + 2 < b1 := by rw [hb1]; exact unhide lu1
  clear hb1 lu1
  have d := (unhide HT2).1
  have f := (unhide HT2).2.2.2 0
  have c := (unhide HT0).2.1
  go_wp2_with fail
  clear c d f
  have HT0 := hide ((unhide HT0).other (c := w.heap.size + 2) (o := 0) (v := .slice (some ⟨b1, 0, none⟩) is.length is.length) (by omega))
  have HT1 := hide ((unhide HT1).other (c := w.heap.size + 2) (o := 0) (v := .slice (some ⟨b1, 0, none⟩) is.length is.length) (by omega))
  have HT2 := hide ((unhide HT2).set0 (.slice (some ⟨b1, 0, none⟩) is.length is.length))
  have HR1 := hide ((unhide HR1).set (c := w.heap.size + 2) (p := 0) (v := .slice (some ⟨b1, 0, none⟩) is.length is.length) (by omega))
  have HK := hide ((unhide HK).setCell (p := ⟨w.heap.size + 2, 0, none⟩) (by show w.heap.size ≤ w.heap.size + 2; omega) (.slice (some ⟨b1, 0, none⟩) is.length is.length))
  generalize u1.setCell ⟨w.heap.size + 2, 0, none⟩ (.slice (some ⟨b1, 0, none⟩) is.length is.length) = u2 at HT0 HT1 HT2 HK HR1 ⊢
  have HR1_ := HR1
  refine (toBoolS_c _ _ bs _ ((unhide Xhb).call (unhide HK))).mono ?_
  rintro e u3 ⟨rfl, R2, kb⟩
  have lu2 := hide (unhide HT2).lt
  have HR1 := hide ((unhide HR1).call kb)
  have HT0 := hide ((unhide HT0).call kb)
  have HT1 := hide ((unhide HT1).call kb)
  have HT2 := hide ((unhide HT2).call kb)
  have HK := hide ((unhide HK).trans (kb.mono (unhide HK).size))
  have HR2 := hide R2
  clear R2 kb
  have lt2 := hide (show b1 < u2.heap.size from (unhide HR1_).2.2)
  obtain ⟨b2, hb2⟩ : ∃ b, b = u2.heap.size := ⟨_, rfl⟩
  rw [← hb2] at HR2 ⊢
  have lw2 : w.heap.size + 2 < b2 := by rw [hb2]; exact unhide lu2
  have lb2 : b1 < b2 := by rw [hb2]; exact unhide lt2
  clear lt2
  clear hb2 lu2
  have d := (unhide HT2).2.1
  have f := (unhide HT2).2.2.2 1
  have c := (unhide HT0).2.2.1
  go_wp2_with fail
  clear c d f
  have HT0 := hide ((unhide HT0).other (c := w.heap.size + 2) (o := 1) (v := .slice (some ⟨b2, 0, none⟩) bs.length bs.length) (by omega))
  have HT1 := hide ((unhide HT1).other (c := w.heap.size + 2) (o := 1) (v := .slice (some ⟨b2, 0, none⟩) bs.length bs.length) (by omega))
  have HT2 := hide ((unhide HT2).set1 (.slice (some ⟨b2, 0, none⟩) bs.length bs.length))
  have HR1 := hide ((unhide HR1).set (c := w.heap.size + 2) (p := 1) (v := .slice (some ⟨b2, 0, none⟩) bs.length bs.length) (by omega))
  have HR2 := hide ((unhide HR2).set (c := w.heap.size + 2) (p := 1) (v := .slice (some ⟨b2, 0, none⟩) bs.length bs.length) (by omega))
  have HK := hide ((unhide HK).setCell (p := ⟨w.heap.size + 2, 1, none⟩) (by show w.heap.size ≤ w.heap.size + 2; omega) (.slice (some ⟨b2, 0, none⟩) bs.length bs.length))
  generalize u3.setCell ⟨w.heap.size + 2, 1, none⟩ (.slice (some ⟨b2, 0, none⟩) bs.length bs.length) = u4 at HT0 HT1 HT2 HK HR1 HR2 ⊢
  have HR2_ := HR2
  refine (toInt64SS_c _ _ js _ ((unhide Xhj).call (unhide HK))).mono ?_
  rintro e u5 ⟨rfl, R3, kb⟩
  have lu3 := hide (unhide HT2).lt
  have HR1 := hide ((unhide HR1).call kb)
  have HR2 := hide ((unhide HR2).call kb)
  have HT0 := hide ((unhide HT0).call kb)
  have HT1 := hide ((unhide HT1).call kb)
  have HT2 := hide ((unhide HT2).call kb)
  have HK := hide ((unhide HK).trans (kb.mono (unhide HK).size))
  have HR3 := hide R3
  clear R3 kb
  have lt3 := hide (show b2 < u4.heap.size from (unhide HR2_).2.2)
  obtain ⟨b3, hb3⟩ : ∃ b, b = u4.heap.size := ⟨_, rfl⟩
  rw [← hb3] at HR3 ⊢
  have lw3 : w.heap.size + 2 < b3 := by rw [hb3]; exact unhide lu3
  have lb3 : b2 < b3 := by rw [hb3]; exact unhide lt3
  clear lt3
  clear hb3 lu3
  have d := (unhide HT2).2.2.1
  have f := (unhide HT2).2.2.2 2
  have d0 := (unhide HT2).1
  have d1 := (unhide HT2).2.1
  have d2 := (unhide HT2).2.2.1
  have e0 := (unhide HT1).1
  have e1 := (unhide HT1).2.1
  have e2 := (unhide HT1).2.2.1
  have f0 := (unhide HT1).2.2.2 0
  have f1 := (unhide HT1).2.2.2 1
  have f2 := (unhide HT1).2.2.2 2
  clear d
  go_wp2_with fail
  clear f d0 d1 d2 e0 e1 e2 f0 f1 f2
  have HT1 := hide (((((unhide HT1).other (c := w.heap.size + 1 + 1) (o := 2) (v := .slice (some ⟨b3, 0, none⟩) js.length js.length) (by omega)).set0 (.slice (some ⟨b1, 0, none⟩) is.length is.length)).set1 (.slice (some ⟨b2, 0, none⟩) bs.length bs.length)).set2 (.slice (some ⟨b3, 0, none⟩) js.length js.length))
  have HR1 := hide (((((unhide HR1).set (c := w.heap.size + 1 + 1) (p := 2) (v := .slice (some ⟨b3, 0, none⟩) js.length js.length) (by omega)).set (c := w.heap.size + 1) (p := 0) (v := .slice (some ⟨b1, 0, none⟩) is.length is.length) (by omega)).set (c := w.heap.size + 1) (p := 1) (v := .slice (some ⟨b2, 0, none⟩) bs.length bs.length) (by omega)).set (c := w.heap.size + 1) (p := 2) (v := .slice (some ⟨b3, 0, none⟩) js.length js.length) (by omega))
  have HR2 := hide (((((unhide HR2).set (c := w.heap.size + 1 + 1) (p := 2) (v := .slice (some ⟨b3, 0, none⟩) js.length js.length) (by omega)).set (c := w.heap.size + 1) (p := 0) (v := .slice (some ⟨b1, 0, none⟩) is.length is.length) (by omega)).set (c := w.heap.size + 1) (p := 1) (v := .slice (some ⟨b2, 0, none⟩) bs.length bs.length) (by omega)).set (c := w.heap.size + 1) (p := 2) (v := .slice (some ⟨b3, 0, none⟩) js.length js.length) (by omega))
  have HR3 := hide (((((unhide HR3).set (c := w.heap.size + 1 + 1) (p := 2) (v := .slice (some ⟨b3, 0, none⟩) js.length js.length) (by omega)).set (c := w.heap.size + 1) (p := 0) (v := .slice (some ⟨b1, 0, none⟩) is.length is.length) (by omega)).set (c := w.heap.size + 1) (p := 1) (v := .slice (some ⟨b2, 0, none⟩) bs.length bs.length) (by omega)).set (c := w.heap.size + 1) (p := 2) (v := .slice (some ⟨b3, 0, none⟩) js.length js.length) (by omega))
  have HK := hide (((((unhide HK).setCell (p := ⟨w.heap.size + 1 + 1, 2, none⟩) (by show w.heap.size ≤ w.heap.size + 1 + 1; omega) (.slice (some ⟨b3, 0, none⟩) js.length js.length)).setCell (p := ⟨w.heap.size + 1, 0, none⟩) (by show w.heap.size ≤ w.heap.size + 1; omega) (.slice (some ⟨b1, 0, none⟩) is.length is.length)).setCell (p := ⟨w.heap.size + 1, 1, none⟩) (by show w.heap.size ≤ w.heap.size + 1; omega) (.slice (some ⟨b2, 0, none⟩) bs.length bs.length)).setCell (p := ⟨w.heap.size + 1, 2, none⟩) (by show w.heap.size ≤ w.heap.size + 1; omega) (.slice (some ⟨b3, 0, none⟩) js.length js.length))
  generalize (((u5.setCell ⟨w.heap.size + 1 + 1, 2, none⟩ (.slice (some ⟨b3, 0, none⟩) js.length js.length)).setCell ⟨w.heap.size + 1, 0, none⟩ (.slice (some ⟨b1, 0, none⟩) is.length is.length)).setCell ⟨w.heap.size + 1, 1, none⟩ (.slice (some ⟨b2, 0, none⟩) bs.length bs.length)).setCell ⟨w.heap.size + 1, 2, none⟩ (.slice (some ⟨b3, 0, none⟩) js.length js.length) = z at HT1 HK HR1 HR2 HR3 ⊢
  have g0 := (unhide HT1).1
  have g1 := (unhide HT1).2.1
  have g2 := (unhide HT1).2.2.1
  exact bodyPost_ret (v := .agg #[.slice (some ⟨b1, 0, none⟩) is.length is.length, .slice (some ⟨b2, 0, none⟩) bs.length bs.length, .slice (some ⟨b3, 0, none⟩) js.length js.length]) (by simp [results, Tryz.results12, go_sem, g0, g1, g2]) rfl ⟨b1, b2, b3, rfl, unhide HR1, unhide HR2, unhide HR3, ⟨by omega, by omega, by omega⟩, unhide HK⟩
set_option maxHeartbeats 2000000 in
theorem eqStore_c (va fa ra va' fa' ra' : Option Addr) (vc fc rc vc' fc' rc' : Nat) (vs : List Int) (fs : List Bool) (rs : List (List Int)) (w : World) (hv : Ints w va vs) (hf : Bools w fa fs) (hr : Mats w ra rs) (hv' : Ints w va' vs) (hf' : Bools w fa' fs) (hr' : Mats w ra' rs) :
    Calls Tryz.prog 17 #[.agg #[.slice va vs.length vc, .slice fa fs.length fc, .slice ra rs.length rc], .agg #[.slice va' vs.length vc', .slice fa' fs.length fc', .slice ra' rs.length rc']] w fun e w' => e = .returned (.bool true) ∧ Below w.heap.size w w' := by
  have X1 := hide hv
  have X2 := hide hf
  have X3 := hide hr
  have X4 := hide hv'
  have X5 := hide hf'
  have X6 := hide hr'
  have T0 := (C3.new w (.slice va vs.length vc) (.slice fa fs.length fc) (.slice ra rs.length rc) 46).alloc (Obj.cells #[.slice va' vs.length vc', .slice fa' fs.length fc', .slice ra' rs.length rc'] 46)
  have T1 := C3.new (w.alloc (Obj.cells #[.slice va vs.length vc, .slice fa fs.length fc, .slice ra rs.length rc] 46)) (.slice va' vs.length vc') (.slice fa' fs.length fc') (.slice ra' rs.length rc') 46
  have K0 : Below w.heap.size w ((w.alloc (Obj.cells #[.slice va vs.length vc, .slice fa fs.length fc, .slice ra rs.length rc] 46)).alloc (Obj.cells #[.slice va' vs.length vc', .slice fa' fs.length fc', .slice ra' rs.length rc'] 46)) := ((Below.refl _ _).alloc (Nat.le_refl _) _).alloc (by simp) _
  rw [show (w.alloc (Obj.cells #[.slice va vs.length vc, .slice fa fs.length fc, .slice ra rs.length rc] 46)).heap.size = w.heap.size + 1 by simp] at T1
  have HT0 := hide T0
  have HT1 := hide T1
  have HK := hide K0
  clear T0 T1 K0 hv hf hr hv' hf' hr'
  go_enter Tryz.func17, Tryz.ntmps17
  go_wp2_with fail
  generalize (w.alloc (Obj.cells #[.slice va vs.length vc, .slice fa fs.length fc, .slice ra rs.length rc] 46)).alloc (Obj.cells #[.slice va' vs.length vc', .slice fa' fs.length fc', .slice ra' rs.length rc'] 46) = u at HT0 HT1 HK ⊢
  refine (eqInt64S_c _ _ _ _ vs _ ((unhide X1).call (unhide HK)) ((unhide X4).call (unhide HK))).mono ?_
  rintro e u1 ⟨rfl, m, rfl⟩
  have kb := bdrew u m
  have HT0 := hide ((unhide HT0).call kb)
  have HT1 := hide ((unhide HT1).call kb)
  have HK := hide ((unhide HK).trans (kb.mono (unhide HK).size))
  clear kb
  generalize u.drewN m = u1 at HT0 HT1 HK ⊢
  have c := (unhide HT0).2.1
  have d := (unhide HT1).2.1
  go_wp2_with fail
  clear c d
  refine (eqBoolS_c _ _ _ _ fs _ ((unhide X2).call (unhide HK)) ((unhide X5).call (unhide HK))).mono ?_
  rintro e u2 ⟨rfl, m2, rfl⟩
  have kb := bdrew u1 m2
  have HT0 := hide ((unhide HT0).call kb)
  have HT1 := hide ((unhide HT1).call kb)
  have HK := hide ((unhide HK).trans (kb.mono (unhide HK).size))
  clear kb
  generalize u1.drewN m2 = u2 at HT0 HT1 HK ⊢
  have c := (unhide HT0).2.2.1
  have d := (unhide HT1).2.2.1
  go_wp2_with fail
  clear c d
  refine (eqInt64SS_c _ _ _ _ rs _ ((unhide X3).call (unhide HK)) ((unhide X6).call (unhide HK))).mono ?_
  rintro e u3 ⟨rfl, kb⟩
  have HK := hide ((unhide HK).trans (kb.mono (unhide HK).size))
  clear kb
  go_wp2
  go_ret
  exact ⟨rfl, unhide HK⟩
end Go.Proofs.YthldhjifnpfmiaaGreatDoor

/- How much of a size is left behind rows of rows of numbers. -/
namespace Go.Proofs.YthldhjifnpfmiaaGreatDoor
open Go.RowKit
set_option linter.unusedSimpArgs false

def szN : List Nat → Int → Int
  | [], l => l
  | n :: ns, l => if l - n < 0 then -1 else szN ns (l - n)
theorem szN_drop (xs : List Nat) (k : Nat) (h : k < xs.length) (l : Int) : szN (xs.drop k) l = if l - xs[k] < 0 then -1 else szN (xs.drop (k + 1)) (l - xs[k]) := by
  rw [List.drop_eq_getElem_cons h]; rfl
def szM (xss : List (List Int)) (l : Int) : Int := if l - xss.length < 0 then -1 else szN (xss.map List.length) (l - xss.length)
/-- Rows of numbers of any length that a machine has. -/
def MatsA (w : World) (a : Option Addr) (xss : List (List Int)) : Prop :=
  xss.length ≤ 9223372036854775807 ∧ (∀ i, (h : i < xss.length) → xss[i].length ≤ 9223372036854775807) ∧ (xss.length = 0 ∨ ∃ cb co, a = some ⟨cb, co, none⟩ ∧ ∀ i, (h : i < xss.length) → ∃ b c, w.cell? ⟨cb, co + i, none⟩ = some (.slice b xss[i].length c) ∧ (xss[i].length = 0 ∨ ∃ db d, b = some ⟨db, d, none⟩ ∧ ∀ j, (h2 : j < xss[i].length) → w.cell? ⟨db, d + j, none⟩ = some (.int .i64 xss[i][j])))
theorem MatsA.call {w w1 : World} {a : Option Addr} {xss : List (List Int)} (h : MatsA w a xss) (hb : Below w.heap.size w w1) : MatsA w1 a xss := by
  refine ⟨h.1, h.2.1, ?_⟩
  rcases h.2.2 with h0 | ⟨cb, co, rfl, hc⟩
  · exact .inl h0
  · refine .inr ⟨cb, co, rfl, fun i hi => ?_⟩
    obtain ⟨b, c, q1, q2⟩ := hc i hi
    refine ⟨b, c, (hb.cell (World.block_lt_of_cell? w _ q1)).trans q1, ?_⟩
    rcases q2 with q2 | ⟨db, d, rfl, q3⟩
    · exact .inl q2
    · exact .inr ⟨db, d, rfl, fun j hj => (hb.cell (World.block_lt_of_cell? w _ (q3 j hj))).trans (q3 j hj)⟩
set_option maxHeartbeats 1000000 in
theorem szInt64SS_c (a : Option Addr) (cap : Nat) (xs : List (List Int)) (left : Int) (h0 : 0 ≤ left) (h1 : left ≤ 1048576) (w : World) (h : MatsA w a xs) : Calls Tryz.prog 23 #[.slice a xs.length cap, .int .i64 left] w fun e w' => e = .returned (.int .i64 (szM xs left)) ∧ Below w.heap.size w w' := by
  have hl := h.1
  obtain ⟨L, hL⟩ : ∃ L, L = xs.length := ⟨_, rfl⟩
  have HZ := hide (show szM xs left = if left - L < 0 then -1 else szN (xs.map List.length) (left - L) by rw [hL]; unfold szM; rfl)
  rw [← hL] at hl ⊢
  have HL := hide hL
  have HH := hide h
  have hl' : (L : Int) ≤ 9223372036854775807 := by omega
  clear h hL
  by_cases hn : left - L < 0
  · rw [unhide HZ, if_pos hn]
    go_enter Tryz.func23, Tryz.ntmps23
    go_wp2
    go_ret
    exact ⟨rfl, Below.refl _ _⟩
  · rw [unhide HZ, if_neg hn]
    clear HZ
    go_enter Tryz.func23, Tryz.ntmps23
    go_wp2
    go_loopw [1, 5] (fun l i wr => ∃ (k : Nat) (m : Int), k ≤ L ∧ 0 ≤ m ∧ m ≤ 1048576 ∧ i = .int .i64 k ∧ l = .int .i64 m ∧ szN ((xs.map List.length).drop k) m = szN (xs.map List.length) (left - L) ∧ Below w.heap.size w wr) (fun _ i _ => L - (intOf i).toNat)
    case atStart => exact ⟨0, left - L, Nat.zero_le _, by omega, by omega, rfl, rfl, by rw [List.drop_zero], Below.refl _ _⟩
    case round =>
      obtain ⟨k, m, hk, m0, m1, rfl, rfl, he, hb⟩ := hrel
      have HE := hide he
      have HB := hide hb
      clear he
      by_cases hlt : k < L
      · have hk' : k < xs.length := by rw [← unhide HL]; exact hlt
        rcases ((unhide HH).call hb).2.2 with h0 | ⟨cb, co, rfl, hc⟩
        · omega
        obtain ⟨ba, bc, c, _⟩ := hc k hk'
        have sz := (unhide HH).2.1 k hk'
        have HD := hide (szN_drop (xs.map List.length) k (by rw [List.length_map]; exact hk') m)
        rw [List.getElem_map] at HD
        clear hc hb
        generalize xs[k].length = x at c sz HD
        have sz' : (x : Int) ≤ 9223372036854775807 := by omega
        by_cases hm : m - x < 0
        · have HX := hide (show szN (xs.map List.length) (left - L) = -1 by rw [← unhide HE, unhide HD, if_pos hm])
          go_wp2_with fail
          refine (szInt64S_c _ x _ _ sz m0 m1 _).mono ?_
          rintro e w2 ⟨rfl, rfl⟩
          unfold sz1
          rw [if_pos hm]
          have HK := HB
          clear c
          go_wp2
          go_ret
          exact ⟨by rw [unhide HX]; rfl, unhide HK⟩
        · have HX := hide (show szN ((xs.map List.length).drop (k + 1)) (m - x) = szN (xs.map List.length) (left - L) by rw [← unhide HE, unhide HD, if_neg hm])
          go_wp2_with fail
          refine (szInt64S_c _ x _ _ sz m0 m1 _).mono ?_
          rintro e w2 ⟨rfl, rfl⟩
          unfold sz1
          rw [if_neg (by omega)]
          have HK := HB
          clear c
          go_wp2
          go_roundw
          case rel => exact ⟨k + 1, m - x, by omega, by omega, by omega, by go_num, rfl, unhide HX, unhide HK⟩
          case measure => simp [intOf]; omega
      · have HX := hide (show szN (xs.map List.length) (left - L) = m by rw [← unhide HE, List.drop_of_length_le (by rw [List.length_map]; have := unhide HL; omega)]; rfl)
        clear hb
        go_wp2
        go_ret
        exact ⟨by rw [unhide HX]; rfl, unhide HB⟩
end Go.Proofs.YthldhjifnpfmiaaGreatDoor

/- Right stores, as the specification asks for them. -/
namespace Go.Proofs.YthldhjifnpfmiaaGreatDoor
open Go.RowKit
set_option linter.unusedSimpArgs false

/-- A store of a declaration that is right. -/
def stoP (m n : Nat) (rs : List (ByteArray × Int)) (is : List Int) (bs : List Bool) (js : List (List Int)) : Prop := is.length = m ∧ bs.length = n ∧ js.length = rs.length ∧ ∀ k, (h : k < rs.length) → ((js.getD k []).length : Int) = rs[k].2
instance (m n : Nat) (rs : List (ByteArray × Int)) (is : List Int) (bs : List Bool) (js : List (List Int)) : Decidable (stoP m n rs is bs js) := by unfold stoP; infer_instance
def storeB (vs fs : List ByteArray) (rs : List (ByteArray × Int)) (is : List Int) (bs : List Bool) (js : List (List Int)) : Bool := declB vs fs rs && decide (stoP vs.length fs.length rs is bs js)
set_option maxRecDepth 20000 in
set_option maxHeartbeats 4000000 in
theorem sStoreOk_c (a1 a2 a3 c1 c2 c3 : Nat) (vs fs : List ByteArray) (rs : List (ByteArray × Int)) (e1 e2 e3 d1 d2 d3 : Nat) (is : List Int) (bs : List Bool) (js : List (List Int)) (w : World) (hv : Strs w (some ⟨a1, 0, none⟩) vs) (hf : Strs w (some ⟨a2, 0, none⟩) fs) (hr : Arrs w (some ⟨a3, 0, none⟩) rs)
    (hz : ∀ x ∈ namesOf vs fs rs, x.size ≤ 1048576) (hj : Mats w (some ⟨e3, 0, none⟩) js) :
    Calls Tryz.prog 25 #[.agg #[.slice (some ⟨a1, 0, none⟩) vs.length c1, .slice (some ⟨a2, 0, none⟩) fs.length c2, .slice (some ⟨a3, 0, none⟩) rs.length c3], .agg #[.slice (some ⟨e1, 0, none⟩) is.length d1, .slice (some ⟨e2, 0, none⟩) bs.length d2, .slice (some ⟨e3, 0, none⟩) js.length d3]] w
    fun e w' => e = .returned (.bool (storeB vs fs rs is bs js)) ∧ Below w.heap.size w w' := by
  have HV := hide hv
  have HF := hide hf
  have HR := hide hr
  have HZ := hide hz
  have HJ := hide hj
  have T0 := (C3.new w (.slice (some ⟨a1, 0, none⟩) vs.length c1) (.slice (some ⟨a2, 0, none⟩) fs.length c2) (.slice (some ⟨a3, 0, none⟩) rs.length c3) 40).alloc (Obj.cells #[.slice (some ⟨e1, 0, none⟩) is.length d1, .slice (some ⟨e2, 0, none⟩) bs.length d2, .slice (some ⟨e3, 0, none⟩) js.length d3] 46)
  have T1 := C3.new (w.alloc (Obj.cells #[.slice (some ⟨a1, 0, none⟩) vs.length c1, .slice (some ⟨a2, 0, none⟩) fs.length c2, .slice (some ⟨a3, 0, none⟩) rs.length c3] 40)) (.slice (some ⟨e1, 0, none⟩) is.length d1) (.slice (some ⟨e2, 0, none⟩) bs.length d2) (.slice (some ⟨e3, 0, none⟩) js.length d3) 46
  have K0 : Below w.heap.size w ((w.alloc (Obj.cells #[.slice (some ⟨a1, 0, none⟩) vs.length c1, .slice (some ⟨a2, 0, none⟩) fs.length c2, .slice (some ⟨a3, 0, none⟩) rs.length c3] 40)).alloc (Obj.cells #[.slice (some ⟨e1, 0, none⟩) is.length d1, .slice (some ⟨e2, 0, none⟩) bs.length d2, .slice (some ⟨e3, 0, none⟩) js.length d3] 46)) := ((Below.refl _ _).alloc (Nat.le_refl _) _).alloc (by simp) _
  rw [show (w.alloc (Obj.cells #[.slice (some ⟨a1, 0, none⟩) vs.length c1, .slice (some ⟨a2, 0, none⟩) fs.length c2, .slice (some ⟨a3, 0, none⟩) rs.length c3] 40)).heap.size = w.heap.size + 1 by simp] at T1
  have HT0 := hide T0
  have HT1 := hide T1
  have HK := hide K0
  clear T0 T1 K0 hv hf hr hz hj
  go_enter Tryz.func25, Tryz.ntmps25
  go_wp2_with fail
  generalize (w.alloc (Obj.cells #[.slice (some ⟨a1, 0, none⟩) vs.length c1, .slice (some ⟨a2, 0, none⟩) fs.length c2, .slice (some ⟨a3, 0, none⟩) rs.length c3] 40)).alloc (Obj.cells #[.slice (some ⟨e1, 0, none⟩) is.length d1, .slice (some ⟨e2, 0, none⟩) bs.length d2, .slice (some ⟨e3, 0, none⟩) js.length d3] 46) = u at HT0 HT1 HK ⊢
  refine (sDeclOk_c a1 a2 a3 _ _ _ vs fs rs _ ((unhide HV).call (unhide HK)) ((unhide HF).call (unhide HK)) ((unhide HR).call (unhide HK)) (unhide HZ)).mono ?_
  rintro e u1 ⟨rfl, kb⟩
  have HT0 := hide ((unhide HT0).call kb)
  have HT1 := hide ((unhide HT1).call kb)
  have HK := hide ((unhide HK).trans (kb.mono (unhide HK).size))
  clear kb
  have HE := hide (show storeB vs fs rs is bs js = (declB vs fs rs && decide (stoP vs.length fs.length rs is bs js)) from rfl)
  cases hd : declB vs fs rs
  · rw [hd] at HE
    go_wp2
    go_ret
    exact ⟨by rw [unhide HE]; rfl, unhide HK⟩
  rw [hd, Bool.true_and] at HE
  obtain ⟨hl1, hl2, hl3⟩ := declB_len hd
  clear hd
  have b0 := (unhide HT0).1
  have b1 := (unhide HT0).2.1
  have b2 := (unhide HT0).2.2.1
  have t0 := (unhide HT1).1
  have t1 := (unhide HT1).2.1
  have t2 := (unhide HT1).2.2.1
  by_cases g1 : is.length = vs.length
  case neg =>
    have HN := hide (show storeB vs fs rs is bs js = false by rw [unhide HE]; exact decide_eq_false (fun h => g1 h.1))
    have g4 : ((is.length : Int) != (vs.length : Int)) = true := by rw [bne_iff_ne]; omega
    clear g1
    go_wp2
    go_ret
    exact ⟨by rw [unhide HN]; rfl, unhide HK⟩
  have g4 : ((is.length : Int) != (vs.length : Int)) = false := by rw [bne_eq_false_iff_eq]; omega
  by_cases g2 : bs.length = fs.length
  case neg =>
    have HN := hide (show storeB vs fs rs is bs js = false by rw [unhide HE]; exact decide_eq_false (fun h => g2 h.2.1))
    have g5 : ((bs.length : Int) != (fs.length : Int)) = true := by rw [bne_iff_ne]; omega
    clear g1 g2
    go_wp2
    go_ret
    exact ⟨by rw [unhide HN]; rfl, unhide HK⟩
  have g5 : ((bs.length : Int) != (fs.length : Int)) = false := by rw [bne_eq_false_iff_eq]; omega
  by_cases g3 : js.length = rs.length
  case neg =>
    have HN := hide (show storeB vs fs rs is bs js = false by rw [unhide HE]; exact decide_eq_false (fun h => g3 h.2.2.1))
    have g6 : ((js.length : Int) != (rs.length : Int)) = true := by rw [bne_iff_ne]; omega
    clear g1 g2 g3
    go_wp2
    go_ret
    exact ⟨by rw [unhide HN]; rfl, unhide HK⟩
  have g6 : ((js.length : Int) != (rs.length : Int)) = false := by rw [bne_eq_false_iff_eq]; omega
  have HG := hide (show (∀ k, (h : k < rs.length) → ((js.getD k []).length : Int) = rs[k].2) → storeB vs fs rs is bs js = true from fun h => by rw [unhide HE]; exact decide_eq_true ⟨g1, g2, g3, h⟩)
  have HG2 := hide (show ∀ k, (h : k < rs.length) → ((js.getD k []).length : Int) ≠ rs[k].2 → storeB vs fs rs is bs js = false from fun k h e => by rw [unhide HE]; exact decide_eq_false (fun hh => e (hh.2.2.2 k h)))
  have HJR := hide g3
  have hJ : js.length ≤ 2 := by omega
  have hJ' : (js.length : Int) ≤ 2 := by omega
  clear g1 g2 g3 HE
  go_wp2
  clear b0 b1 t0 t1 t2 b2 g4 g5 g6
  go_loopw [5] (fun i wr => ∃ k : Nat, k ≤ js.length ∧ i = .int .i64 k ∧ (∀ j, (h : j < rs.length) → j < k → ((js.getD j []).length : Int) = rs[j].2) ∧ Below u1.heap.size u1 wr) (fun i _ => js.length - (intOf i).toNat)
  case atStart => exact ⟨0, Nat.zero_le _, rfl, fun j _ h => by omega, Below.refl _ _⟩
  case round =>
    obtain ⟨k, hk, rfl, hall, hb⟩ := hrel
    have HA := hide hall
    have HB := hide ((unhide HK).trans (hb.mono (unhide HK).size))
    have HB1 := hide hb
    have b2 := ((unhide HT0).call hb).2.2.1
    have t2 := ((unhide HT1).call hb).2.2.1
    by_cases hlt : k < js.length
    · have hr' : k < rs.length := by rw [← unhide HJR]; exact hlt
      rcases (((unhide HJ).call (unhide HB))).2 with h0 | ⟨cb, co, e, hc⟩
      · omega
      cases e
      obtain ⟨ba, bc, q1, _⟩ := hc k hlt
      rcases (((unhide HR).call (unhide HB))).2 with h0 | ⟨cb, co, e, hc2⟩
      · omega
      cases e
      have q2 := (hc2 k hr').2
      rw [Nat.zero_add] at q1 q2
      have ek : js.getD k [] = js[k] := by simp [List.getD, hlt]
      have HI := hide (show (js[k].length : Int) = rs[k].2 → ∀ j, (h : j < rs.length) → j < k + 1 → ((js.getD j []).length : Int) = rs[j].2 from fun e j h hj => by
        by_cases q : j = k
        · subst q; rw [ek]; exact e
        · exact unhide HA j h (by omega))
      have HX := hide (show (js[k].length : Int) ≠ rs[k].2 → storeB vs fs rs is bs js = false from fun e => unhide HG2 k hr' (by rw [ek]; exact e))
      have ml : js[k].length ≤ 1048576 := by
        obtain ⟨_, _, _, qi⟩ := hc k hlt
        exact qi.1
      clear hc hc2 hall hb ek
      generalize js[k].length = x at q1 HI HX ml
      generalize rs[k].2 = z at q2 HI HX
      have ml' : (x : Int) ≤ 1048576 := by omega
      by_cases hx : (x : Int) = z
      · have HI2 := hide (unhide HI hx)
        have hx2 : ((x : Int) != z) = false := by rw [bne_eq_false_iff_eq]; exact hx
        clear HI HX hx
        go_wp2
        go_quiet (fail)
        go_wp2
        go_roundw
        case rel => exact ⟨k + 1, by omega, by go_num, unhide HI2, (unhide HB1).trans ((bdrew _ _).mono (unhide HB1).size)⟩
        case measure => simp [intOf]; omega
      · have HN := hide (unhide HX hx)
        have hx2 : ((x : Int) != z) = true := by rw [bne_iff_ne]; exact hx
        clear HI HX hx
        go_wp2
        go_quiet (fail)
        go_wp2
        go_ret
        exact ⟨by rw [unhide HN]; rfl, (unhide HB).trans ((bdrew _ _).mono (unhide HB).size)⟩
    · have HN := hide (unhide HG (fun j hj => unhide HA j hj (by have := unhide HJR; omega)))
      clear hall hb
      go_wp2
      go_ret
      exact ⟨by rw [unhide HN]; rfl, unhide HB⟩
end Go.Proofs.YthldhjifnpfmiaaGreatDoor

/- Right stores, as the program asks for them. -/
namespace Go.Proofs.YthldhjifnpfmiaaGreatDoor
open Go.RowKit
set_option linter.unusedSimpArgs false

def szT (m n : Nat) (js : List (List Int)) (l : Int) : Int := if sz1 m l < 0 then -1 else if sz1 n (sz1 m l) < 0 then -1 else szM js (sz1 n (sz1 m l))
theorem szN_le (xs : List Nat) : ∀ l, 0 ≤ l → szN xs l ≤ l ∧ -1 ≤ szN xs l ∧ (0 ≤ szN xs l → ∀ x ∈ xs, (x : Int) ≤ l) := by
  induction xs with
  | nil => intro l h; exact ⟨Int.le_refl _, by show -1 ≤ l; omega, fun _ x hx => by cases hx⟩
  | cons y ys ih =>
    intro l h
    unfold szN
    split
    · exact ⟨by omega, by omega, fun h => by omega⟩
    · have := ih (l - y) (by omega)
      refine ⟨by omega, by omega, fun h0 x hx => ?_⟩
      rcases List.mem_cons.1 hx with rfl | hx
      · omega
      · have := this.2.2 h0 x hx; omega
theorem szM_le (xss : List (List Int)) (l : Int) (h : 0 ≤ l) : szM xss l ≤ l ∧ -1 ≤ szM xss l ∧ (0 ≤ szM xss l → (xss.length : Int) ≤ l ∧ ∀ x ∈ xss, (x.length : Int) ≤ l) := by
  unfold szM
  split
  · exact ⟨by omega, by omega, fun h => by omega⟩
  · have q := szN_le (xss.map List.length) (l - xss.length) (by omega)
    refine ⟨by omega, q.2.1, fun h0 => ⟨by omega, fun x hx => ?_⟩⟩
    have := q.2.2 h0 x.length (List.mem_map.2 ⟨x, hx, rfl⟩)
    omega
theorem szT_le (m n : Nat) (js : List (List Int)) (l : Int) (h : 0 ≤ l) : szT m n js l ≤ l ∧ -1 ≤ szT m n js l ∧ (0 ≤ szT m n js l → (m : Int) ≤ l ∧ (n : Int) ≤ l ∧ (js.length : Int) ≤ l ∧ ∀ x ∈ js, (x.length : Int) ≤ l) := by
  have q1 := sz1_le m l h
  unfold szT
  split
  · exact ⟨by omega, by omega, fun h => by omega⟩
  · have q2 := sz1_le n (sz1 m l) (by omega)
    split
    · exact ⟨by omega, by omega, fun h => by omega⟩
    · have q3 := szM_le js (sz1 n (sz1 m l)) (by omega)
      refine ⟨by omega, by omega, fun h0 => ⟨q1.2.2 (by omega), by have := q2.2.2 (by omega); omega, by have := (q3.2.2 h0).1; omega, fun x hx => by have := (q3.2.2 h0).2 x hx; omega⟩⟩
theorem Mats.ofA {w : World} {a : Option Addr} {xss : List (List Int)} (h : MatsA w a xss) (hl : (xss.length : Int) ≤ 1048576) (he : ∀ x ∈ xss, (x.length : Int) ≤ 1048576) : Mats w a xss := by
  refine ⟨by omega, ?_⟩
  rcases h.2.2 with h0 | ⟨cb, co, e, hc⟩
  · exact .inl h0
  · refine .inr ⟨cb, co, e, fun i hi => ?_⟩
    obtain ⟨b, c, q1, q2⟩ := hc i hi
    have := he xss[i] (List.getElem_mem hi)
    exact ⟨b, c, q1, by omega, q2⟩
set_option maxHeartbeats 1000000 in
theorem szStore_c (ia ba ja : Option Addr) (ic bc jc m n : Nat) (js : List (List Int)) (left : Int) (h0 : 0 ≤ left) (h1 : left ≤ 1048576) (w : World) (hm : m ≤ 9223372036854775807) (hn : n ≤ 9223372036854775807) (hj : MatsA w ja js) :
    Calls Tryz.prog 7 #[.agg #[.slice ia m ic, .slice ba n bc, .slice ja js.length jc], .int .i64 left] w fun e w' => e = .returned (.int .i64 (szT m n js left)) ∧ Below w.heap.size w w' := by
  have q1 := sz1_le m left h0
  have HB := hide ((Below.refl _ w).alloc (Nat.le_refl _) (Obj.cells #[.slice ia m ic, .slice ba n bc, .slice ja js.length jc] 32))
  have HJ := hide (hj.call (unhide HB))
  clear hj
  go_enter Tryz.func7, Tryz.ntmps7
  go_wp2_with fail
  refine (szInt64S_c _ m _ _ hm h0 h1 _).mono ?_
  rintro e w1 ⟨rfl, rfl⟩
  have HZ := hide (show szT m n js left = if sz1 m left < 0 then -1 else if sz1 n (sz1 m left) < 0 then -1 else szM js (sz1 n (sz1 m left)) from rfl)
  generalize sz1 m left = l1 at q1 HZ
  by_cases n1 : l1 < 0
  · have HE := hide (show szT m n js left = -1 by rw [unhide HZ, if_pos n1])
    go_wp2
    go_ret
    exact ⟨by rw [unhide HE]; rfl, unhide HB⟩
  have m1 : 0 ≤ l1 := by omega
  have q2 := sz1_le n l1 m1
  go_wp2_with fail
  refine (szBoolS_c _ n _ _ hn m1 (by omega) _).mono ?_
  rintro e w1 ⟨rfl, rfl⟩
  have HZ2 := hide (show szT m n js left = if sz1 n l1 < 0 then -1 else szM js (sz1 n l1) by rw [unhide HZ, if_neg (by omega)])
  clear HZ
  generalize sz1 n l1 = l2 at q2 HZ2
  by_cases n2 : l2 < 0
  · have HE := hide (show szT m n js left = -1 by rw [unhide HZ2, if_pos n2])
    go_wp2
    go_ret
    exact ⟨by rw [unhide HE]; rfl, unhide HB⟩
  have m2 : 0 ≤ l2 := by omega
  have q3 := szM_le js l2 m2
  go_wp2_with fail
  refine (szInt64SS_c _ _ js _ m2 (by omega) _ (unhide HJ)).mono ?_
  rintro e w1 ⟨rfl, hb⟩
  have HB2 := hide ((unhide HB).trans (hb.mono (unhide HB).size))
  have HZ3 := hide (show szT m n js left = szM js l2 by rw [unhide HZ2, if_neg (by omega)])
  clear HZ2 hb
  generalize szM js l2 = l3 at q3 HZ3
  by_cases n3 : l3 < 0
  · have HE := hide (show szT m n js left = -1 by rw [unhide HZ3]; omega)
    go_wp2
    go_ret
    exact ⟨by rw [unhide HE]; rfl, unhide HB2⟩
  · go_wp2
    go_ret
    exact ⟨by rw [unhide HZ3]; rfl, unhide HB2⟩
set_option maxRecDepth 20000 in
set_option maxHeartbeats 4000000 in
theorem iStoreOk_c (a1 a2 a3 c1 c2 c3 : Nat) (vs fs : List ByteArray) (rs : List (ByteArray × Int)) (e1 e2 e3 d1 d2 d3 : Nat) (is : List Int) (bs : List Bool) (js : List (List Int)) (w : World) (hw : KW w) (hv : Strs w (some ⟨a1, 0, none⟩) vs) (hf : Strs w (some ⟨a2, 0, none⟩) fs) (hr : Arrs w (some ⟨a3, 0, none⟩) rs)
    (hz : ∀ x ∈ namesOf vs fs rs, x.size ≤ 1048576) (hj : Mats w (some ⟨e3, 0, none⟩) js) :
    Calls Tryz.prog 65 #[.agg #[.slice (some ⟨a1, 0, none⟩) vs.length c1, .slice (some ⟨a2, 0, none⟩) fs.length c2, .slice (some ⟨a3, 0, none⟩) rs.length c3], .agg #[.slice (some ⟨e1, 0, none⟩) is.length d1, .slice (some ⟨e2, 0, none⟩) bs.length d2, .slice (some ⟨e3, 0, none⟩) js.length d3]] w
    fun e w' => e = .returned (.bool (storeB vs fs rs is bs js)) ∧ Below w.heap.size w w' := by
  have HW := hide hw
  have HV := hide hv
  have HF := hide hf
  have HR := hide hr
  have HZ := hide hz
  have HJ := hide hj
  have T0 := (C3.new w (.slice (some ⟨a1, 0, none⟩) vs.length c1) (.slice (some ⟨a2, 0, none⟩) fs.length c2) (.slice (some ⟨a3, 0, none⟩) rs.length c3) 40).alloc (Obj.cells #[.slice (some ⟨e1, 0, none⟩) is.length d1, .slice (some ⟨e2, 0, none⟩) bs.length d2, .slice (some ⟨e3, 0, none⟩) js.length d3] 46)
  have T1 := C3.new (w.alloc (Obj.cells #[.slice (some ⟨a1, 0, none⟩) vs.length c1, .slice (some ⟨a2, 0, none⟩) fs.length c2, .slice (some ⟨a3, 0, none⟩) rs.length c3] 40)) (.slice (some ⟨e1, 0, none⟩) is.length d1) (.slice (some ⟨e2, 0, none⟩) bs.length d2) (.slice (some ⟨e3, 0, none⟩) js.length d3) 46
  have K0 : Below w.heap.size w ((w.alloc (Obj.cells #[.slice (some ⟨a1, 0, none⟩) vs.length c1, .slice (some ⟨a2, 0, none⟩) fs.length c2, .slice (some ⟨a3, 0, none⟩) rs.length c3] 40)).alloc (Obj.cells #[.slice (some ⟨e1, 0, none⟩) is.length d1, .slice (some ⟨e2, 0, none⟩) bs.length d2, .slice (some ⟨e3, 0, none⟩) js.length d3] 46)) := ((Below.refl _ _).alloc (Nat.le_refl _) _).alloc (by simp) _
  rw [show (w.alloc (Obj.cells #[.slice (some ⟨a1, 0, none⟩) vs.length c1, .slice (some ⟨a2, 0, none⟩) fs.length c2, .slice (some ⟨a3, 0, none⟩) rs.length c3] 40)).heap.size = w.heap.size + 1 by simp] at T1
  have HT0 := hide T0
  have HT1 := hide T1
  have HK := hide K0
  clear T0 T1 K0 hv hf hr hz hj hw
  go_enter Tryz.func65, Tryz.ntmps65
  go_wp2_with fail
  generalize (w.alloc (Obj.cells #[.slice (some ⟨a1, 0, none⟩) vs.length c1, .slice (some ⟨a2, 0, none⟩) fs.length c2, .slice (some ⟨a3, 0, none⟩) rs.length c3] 40)).alloc (Obj.cells #[.slice (some ⟨e1, 0, none⟩) is.length d1, .slice (some ⟨e2, 0, none⟩) bs.length d2, .slice (some ⟨e3, 0, none⟩) js.length d3] 46) = u at HT0 HT1 HK ⊢
  refine (iDeclOk_c a1 a2 a3 _ _ _ vs fs rs _ ((unhide HW).call (unhide HK)) ((unhide HV).call (unhide HK)) ((unhide HF).call (unhide HK)) ((unhide HR).call (unhide HK)) (unhide HZ)).mono ?_
  rintro e u1 ⟨rfl, kb⟩
  have HT0 := hide ((unhide HT0).call kb)
  have HT1 := hide ((unhide HT1).call kb)
  have HK := hide ((unhide HK).trans (kb.mono (unhide HK).size))
  clear kb
  have HE := hide (show storeB vs fs rs is bs js = (declB vs fs rs && decide (stoP vs.length fs.length rs is bs js)) from rfl)
  cases hd : declB vs fs rs
  · rw [hd] at HE
    go_wp2
    go_ret
    exact ⟨by rw [unhide HE]; rfl, unhide HK⟩
  rw [hd, Bool.true_and] at HE
  obtain ⟨hl1, hl2, hl3⟩ := declB_len hd
  clear hd
  have b0 := (unhide HT0).1
  have b1 := (unhide HT0).2.1
  have b2 := (unhide HT0).2.2.1
  have t0 := (unhide HT1).1
  have t1 := (unhide HT1).2.1
  have t2 := (unhide HT1).2.2.1
  by_cases g1 : is.length = vs.length
  case neg =>
    have HN := hide (show storeB vs fs rs is bs js = false by rw [unhide HE]; exact decide_eq_false (fun h => g1 h.1))
    have g4 : ((is.length : Int) != (vs.length : Int)) = true := by rw [bne_iff_ne]; omega
    clear g1
    go_wp2
    go_ret
    exact ⟨by rw [unhide HN]; rfl, unhide HK⟩
  have g4 : ((is.length : Int) != (vs.length : Int)) = false := by rw [bne_eq_false_iff_eq]; omega
  by_cases g2 : bs.length = fs.length
  case neg =>
    have HN := hide (show storeB vs fs rs is bs js = false by rw [unhide HE]; exact decide_eq_false (fun h => g2 h.2.1))
    have g5 : ((bs.length : Int) != (fs.length : Int)) = true := by rw [bne_iff_ne]; omega
    clear g1 g2
    go_wp2
    go_ret
    exact ⟨by rw [unhide HN]; rfl, unhide HK⟩
  have g5 : ((bs.length : Int) != (fs.length : Int)) = false := by rw [bne_eq_false_iff_eq]; omega
  by_cases g3 : js.length = rs.length
  case neg =>
    have HN := hide (show storeB vs fs rs is bs js = false by rw [unhide HE]; exact decide_eq_false (fun h => g3 h.2.2.1))
    have g6 : ((js.length : Int) != (rs.length : Int)) = true := by rw [bne_iff_ne]; omega
    clear g1 g2 g3
    go_wp2
    go_ret
    exact ⟨by rw [unhide HN]; rfl, unhide HK⟩
  have g6 : ((js.length : Int) != (rs.length : Int)) = false := by rw [bne_eq_false_iff_eq]; omega
  have HG := hide (show (∀ k, (h : k < rs.length) → ((js.getD k []).length : Int) = rs[k].2) → storeB vs fs rs is bs js = true from fun h => by rw [unhide HE]; exact decide_eq_true ⟨g1, g2, g3, h⟩)
  have HG2 := hide (show ∀ k, (h : k < rs.length) → ((js.getD k []).length : Int) ≠ rs[k].2 → storeB vs fs rs is bs js = false from fun k h e => by rw [unhide HE]; exact decide_eq_false (fun hh => e (hh.2.2.2 k h)))
  have HJR := hide g3
  have hJ : rs.length ≤ 2 := by omega
  have hJ' : (rs.length : Int) ≤ 2 := by omega
  clear g1 g2 g3 HE
  go_wp2
  clear b0 b1 t0 t1 t2 b2 g4 g5 g6
  go_loopw [40] (fun i wr => ∃ k : Nat, k ≤ rs.length ∧ i = .int .i64 k ∧ (∀ j, (h : j < rs.length) → j < k → ((js.getD j []).length : Int) = rs[j].2) ∧ Below u1.heap.size u1 wr) (fun i _ => rs.length - (intOf i).toNat)
  case atStart => exact ⟨0, Nat.zero_le _, rfl, fun j _ h => by omega, Below.refl _ _⟩
  case round =>
    obtain ⟨k, hk, rfl, hall, hb⟩ := hrel
    have HA := hide hall
    have HB := hide ((unhide HK).trans (hb.mono (unhide HK).size))
    have HB1 := hide hb
    have t2 := ((unhide HT1).call hb).2.2.1
    by_cases hr' : k < rs.length
    · have hlt : k < js.length := by rw [unhide HJR]; exact hr'
      have hlj : (k : Int) < (js.length : Int) := by omega
      rcases (((unhide HJ).call (unhide HB))).2 with h0 | ⟨cb, co, e, hc⟩
      · omega
      cases e
      obtain ⟨ba, bc, q1, _⟩ := hc k hlt
      rcases (((unhide HR).call (unhide HB))).2 with h0 | ⟨cb, co, e, hc2⟩
      · omega
      cases e
      have q2 := (hc2 k hr').2
      have q3 := (hc2 k hr').1
      rw [Nat.zero_add] at q1 q2 q3
      generalize rs[k].1 = nm at q3
      have ek : js.getD k [] = js[k] := by simp [List.getD, hlt]
      have HI := hide (show (js[k].length : Int) = rs[k].2 → ∀ j, (h : j < rs.length) → j < k + 1 → ((js.getD j []).length : Int) = rs[j].2 from fun e j h hj => by
        by_cases q : j = k
        · subst q; rw [ek]; exact e
        · exact unhide HA j h (by omega))
      have HX := hide (show (js[k].length : Int) ≠ rs[k].2 → storeB vs fs rs is bs js = false from fun e => unhide HG2 k hr' (by rw [ek]; exact e))
      have ml : js[k].length ≤ 1048576 := by
        obtain ⟨_, _, _, qi⟩ := hc k hlt
        exact qi.1
      clear hc hc2 hall hb ek
      generalize js[k].length = x at q1 HI HX ml
      generalize rs[k].2 = z at q2 HI HX
      have ml' : (x : Int) ≤ 1048576 := by omega
      by_cases hx : (x : Int) = z
      · have HI2 := hide (unhide HI hx)
        have hx2 : ((x : Int) != z) = false := by rw [bne_eq_false_iff_eq]; exact hx
        have ka := (Below.refl _ wr).alloc (Nat.le_refl _) (Obj.cells #[.string nm, .int .i64 z] 106)
        have z1 := (ka.cell (World.block_lt_of_cell? wr _ t2)).trans t2
        have z2 := (ka.cell (World.block_lt_of_cell? wr _ q1)).trans q1
        have z3 : (wr.alloc (Obj.cells #[.string nm, .int .i64 z] 106)).cell? ⟨wr.heap.size, 1, none⟩ = some (.int .i64 z) := by simp
        have HB2 := hide ((unhide HB1).trans (ka.mono (unhide HB1).size))
        clear HI HX hx ka
        go_wp2
        clear q1 q2 q3 t2
        generalize wr.alloc (Obj.cells #[.string nm, .int .i64 z] 106) = wz at z1 z2 z3 HB2 ⊢
        go_quiet (fail)
        go_wp2
        go_roundw
        case rel => exact ⟨k + 1, by omega, by go_num, unhide HI2, (unhide HB2).trans ((bdrew _ _).mono (unhide HB2).size)⟩
        case measure => simp [intOf]; omega
      · have HN := hide (unhide HX hx)
        have hx2 : ((x : Int) != z) = true := by rw [bne_iff_ne]; exact hx
        have ka := (Below.refl _ wr).alloc (Nat.le_refl _) (Obj.cells #[.string nm, .int .i64 z] 106)
        have z1 := (ka.cell (World.block_lt_of_cell? wr _ t2)).trans t2
        have z2 := (ka.cell (World.block_lt_of_cell? wr _ q1)).trans q1
        have z3 : (wr.alloc (Obj.cells #[.string nm, .int .i64 z] 106)).cell? ⟨wr.heap.size, 1, none⟩ = some (.int .i64 z) := by simp
        have HB2 := hide ((unhide HB).trans (ka.mono (unhide HB).size))
        clear HI HX hx ka
        go_wp2
        clear q1 q2 q3 t2
        generalize wr.alloc (Obj.cells #[.string nm, .int .i64 z] 106) = wz at z1 z2 z3 HB2 ⊢
        go_quiet (fail)
        go_wp2
        go_ret
        exact ⟨by rw [unhide HN]; rfl, (unhide HB2).trans ((bdrew _ _).mono (unhide HB2).size)⟩
    · have HN := hide (unhide HG (fun j hj => unhide HA j hj (by omega)))
      clear hall hb
      go_wp2
      go_ret
      exact ⟨by rw [unhide HN]; rfl, unhide HB⟩
end Go.Proofs.YthldhjifnpfmiaaGreatDoor

