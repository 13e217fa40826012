/- Rows of truths; the laws' copies of them. -/
import Derived.Test.YtcceeejmppamdaaDoorIntC
import Derived.Laws.OwnMore
import Derived.Deep.QuietTactic
import Derived.BigQuiet
namespace Go.Proofs.YtcceeejmppamdaaDoor
open Go.RowKit
set_option linter.unusedSimpArgs false

/-- So many truths at an address. -/
def Bools (w : World) (a : Option Addr) (xs : List Bool) : Prop :=
  xs.length ≤ 1048576 ∧ (xs.length = 0 ∨ ∃ cb co, a = some ⟨cb, co, none⟩ ∧ ∀ i, (h : i < xs.length) → w.cell? ⟨cb, co + i, none⟩ = some (.bool xs[i]))
theorem Bools.to {w w1 : World} {a : Option Addr} {xs : List Bool} {B : Nat} (h : Bools w a xs) (hb : Below B w w1) (ha : ∀ x, a = some x → 0 < xs.length → x.block < B) : Bools w1 a xs := by
  refine ⟨h.1, ?_⟩
  rcases h.2 with h0 | ⟨cb, co, rfl, hc⟩
  · exact .inl h0
  · exact .inr ⟨cb, co, rfl, fun i hi => (hb.cell (by exact ha ⟨cb, co, none⟩ rfl (by omega))).trans (hc i hi)⟩
theorem Bools.lt {w : World} {a : Option Addr} {xs : List Bool} (h : Bools w a xs) : ∀ x, a = some x → 0 < xs.length → x.block < w.heap.size := by
  intro x hx h0
  rcases h.2 with h1 | ⟨cb, co, rfl, hc⟩
  · omega
  · cases hx
    exact World.block_lt_of_cell? w _ (hc 0 h0)
theorem Bools.call {w w1 : World} {a : Option Addr} {xs : List Bool} (h : Bools w a xs) (hb : Below w.heap.size w w1) : Bools w1 a xs := h.to hb h.lt
/-- A row of truths that fills a block of the call's own from its start. -/
def OwnB (w : World) (b : Nat) (xs : List Bool) : Prop := Bools w (some ⟨b, 0, none⟩) xs ∧ (∀ o, w.frozen? ⟨b, o, none⟩ = false) ∧ b < w.heap.size
theorem OwnB.call {w w1 : World} {b : Nat} {xs : List Bool} (h : OwnB w b xs) (hb : Below w.heap.size w w1) : OwnB w1 b xs :=
  ⟨h.1.call hb, fun o => (hb.frozen (by exact h.2.2)).trans (h.2.1 o), Nat.lt_of_lt_of_le h.2.2 hb.size⟩
theorem OwnB.set {w : World} {b c p : Nat} {v : Value} {xs : List Bool} (h : OwnB w b xs) (hne : c ≠ b) : OwnB (w.setCell ⟨c, p, none⟩ v) b xs := by
  refine ⟨⟨h.1.1, ?_⟩, fun o => (World.frozen?_setCell _ _ _ _).trans (h.2.1 o), by simpa [World.setCell] using h.2.2⟩
  rcases h.1.2 with h0 | ⟨cb, co, e, hc⟩
  · exact .inl h0
  · cases e
    exact .inr ⟨b, 0, rfl, fun i hi => (World.cell?_setCell_other _ _ _ _ (fun e => hne (congrArg Addr.block e))).trans (hc i hi)⟩
/-- A row of the call's own that is filled up to k. -/
def FillB (w : World) (g : Nat) (zs : List Bool) (k : Nat) (wr : World) : Prop :=
  (∀ i, (h : i < zs.length) → i < k → wr.cell? ⟨g, i, none⟩ = some (.bool zs[i])) ∧ (∀ i, i < zs.length → k ≤ i → wr.cell? ⟨g, i, none⟩ = some (.bool false)) ∧ (∀ o, wr.frozen? ⟨g, o, none⟩ = false) ∧ g < wr.heap.size ∧ w.heap.size ≤ g ∧ Below w.heap.size w wr
theorem FillB.step {w wr : World} {g k : Nat} {zs : List Bool} (h : FillB w g zs k wr) (hk : k < zs.length) : FillB w g zs (k + 1) (wr.setCell ⟨g, k, none⟩ (.bool zs[k])) := by
  obtain ⟨h1, h2, h3, h4, h5, h6⟩ := h
  have c := h2 k hk (Nat.le_refl _)
  refine ⟨fun i hi hik => ?_, fun i hi hik => ?_, fun o => (World.frozen?_setCell _ _ _ _).trans (h3 o), by simpa [World.setCell] using h4, h5, h6.setCell (by exact h5) _⟩
  · by_cases e : i = k
    · subst e
      exact World.cell?_setCell_same _ _ _ c
    · rw [World.cell?_setCell_other _ _ _ _ (fun hh => by have hh' : k = i := congrArg Addr.off hh; omega)]
      exact h1 i hi (by omega)
  · rw [World.cell?_setCell_other _ _ _ _ (fun hh => by have hh' : k = i := congrArg Addr.off hh; omega)]
    exact h2 i hi (by omega)
theorem boolInfo : (Tryd.prog.info? 4).map (fun i => (i.zero, i.size, i.bytes)) = some (some (.bool false), 1, 1) := by kernel_rfl
theorem makeB_c (n : Nat) (hn : n ≤ 1048576) (zs : List Bool) (hz : zs.length = n) (w : World) : ∃ w1, (Instr.makeSlice 44 (.int .i64 (n : Int)) (.int .i64 (n : Int))).run Tryd.prog w = .ok (.slice (some ⟨w.heap.size, 0, none⟩) n n) w1 ∧ FillB w w.heap.size zs 0 w1 := by
  obtain ⟨inf, hi, hz0, hz1, hz2⟩ := info_parts boolInfo
  obtain ⟨w1, hr, ho, hg⟩ := run_make_full (P := Tryd.prog) w w.heap.size 44 4 inf (.bool false) 1 Tryd.underlying44 hi hz0 hz1 .i64 .i64 n (by rw [hz2]; omega) (by unfold maxLen; omega) (Nat.le_refl _)
  refine ⟨w1, hr, fun i hi h0 => by omega, fun i hi _ => ?_, fun o => ho.frozenAt o, (ho.lt w.heap.size rfl).2, Nat.le_refl _, (Below.refl _ _).grown hg (Nat.le_refl _) (fun j hj => by simp at hj)⟩
  rw [ho.cellAt i (by omega)]
  rw [show (Value.bool false).cells = #[.bool false] from rfl, toList_madeCells_one, List.getElem?_replicate, if_pos (by omega)]

set_option maxHeartbeats 400000 in
theorem toBoolS_c (a : Option Addr) (cap : Nat) (zs : List Bool) (w : World) (h : Bools w a zs) : Calls Tryd.prog 40 #[.slice a zs.length cap] w fun e w' => e = .returned (.slice (some ⟨w.heap.size, 0, none⟩) zs.length zs.length) ∧ OwnB w' w.heap.size zs ∧ Below w.heap.size w w' := by
  have hl := h.1
  obtain ⟨L, hL⟩ : ∃ L, L = zs.length := ⟨_, rfl⟩
  rw [← hL] at hl ⊢
  have HL := hide hL
  have HH := hide h
  obtain ⟨w1, hmk, hf⟩ := makeB_c L hl zs hL.symm w
  have HF := hide hf
  have hl' : (L : Int) ≤ 1048576 := by omega
  clear h hL hf
  go_enter Tryd.func40, Tryd.ntmps40
  go_wp2
  go_loopw [4] (fun i wr => ∃ k : Nat, k ≤ L ∧ i = .int .i64 k ∧ FillB w w.heap.size zs k wr) (fun i _ => L - (intOf i).toNat)
  case atStart => exact ⟨0, Nat.zero_le _, rfl, unhide HF⟩
  case round =>
    clear HF hmk
    obtain ⟨k, hk, rfl, hf⟩ := hrel
    by_cases hlt : k < L
    · have hk' : k < zs.length := by rw [← unhide HL]; exact hlt
      have HS := hide (hf.step hk')
      obtain ⟨s, hs⟩ : ∃ s, s = zs[k] := ⟨_, rfl⟩
      rcases (unhide HH).2 with h0 | ⟨cb, co, rfl, hc⟩
      · omega
      have hlt' := (unhide HH).lt ⟨cb, co, none⟩ rfl (by omega)
      have c : wr.cell? ⟨cb, co + k, none⟩ = some (.bool s) := (hf.2.2.2.2.2.cell (by exact hlt')).trans (by rw [hs]; exact hc k hk')
      have c2 := hf.2.1 k hk' (Nat.le_refl _)
      have f2 := hf.2.2.1 k
      rw [← hs] at HS
      clear hs hc hf
      go_wp2
      go_roundw
      case rel => exact ⟨k + 1, by omega, by go_num, unhide HS⟩
      case measure => simp [intOf]; omega
    · obtain rfl : k = L := by omega
      have HF := hide hf
      clear hf
      go_wp2
      go_ret
      refine ⟨rfl, ⟨⟨by rw [← unhide HL]; exact hl, .inr ⟨w.heap.size, 0, rfl, fun i hi => ?_⟩⟩, (unhide HF).2.2.1, (unhide HF).2.2.2.1⟩, (unhide HF).2.2.2.2.2⟩
      rw [Nat.zero_add]
      exact (unhide HF).1 i hi (by rw [unhide HL]; exact hi)

set_option maxHeartbeats 400000 in
theorem eqBoolS_c (a b : Option Addr) (c d : Nat) (zs : List Bool) (w : World) (h : Bools w a zs) (h2 : Bools w b zs) : Calls Tryd.prog 46 #[.slice a zs.length c, .slice b zs.length d] w fun e w' => e = .returned (.bool true) ∧ ∃ m, w' = w.drewN m := by
  have hl := h.1
  obtain ⟨L, hL⟩ : ∃ L, L = zs.length := ⟨_, rfl⟩
  rw [← hL] at hl ⊢
  have HL := hide hL
  have HH := hide h
  have HG := hide h2
  have hl' : (L : Int) ≤ 1048576 := by omega
  clear h h2 hL
  go_enter Tryd.func46, Tryd.ntmps46
  go_wp2
  go_loopw [5] (fun i wr => ∃ k m : Nat, k ≤ L ∧ i = .int .i64 k ∧ wr = w.drewN m) (fun i _ => L - (intOf i).toNat)
  case atStart => exact ⟨0, 0, Nat.zero_le _, rfl, rfl⟩
  case round =>
    obtain ⟨k, m, hk, rfl, rfl⟩ := hrel
    by_cases hlt : k < L
    · have hk' : k < zs.length := by rw [← unhide HL]; exact hlt
      obtain ⟨s, hs⟩ : ∃ s, s = zs[k] := ⟨_, rfl⟩
      rcases (unhide HH).2 with h0 | ⟨cb, co, rfl, hc⟩
      · omega
      rcases (unhide HG).2 with h0 | ⟨eb, eo, rfl, hd⟩
      · omega
      have c1 := hc k hk'
      have c2 := hd k hk'
      rw [← hs] at c1 c2
      clear hs hc hd
      go_wp2
      go_quiet (fail)
      go_wp2
      go_roundw
      case rel => exact ⟨k + 1, _, by omega, by go_num, rfl⟩
      case measure => simp [intOf]; omega
    · go_wp2
      go_ret
      exact ⟨rfl, _, rfl⟩
end Go.Proofs.YtcceeejmppamdaaDoor
