/- The laws' copies of rows of texts. -/
import Derived.Test.YthldhjifnpfmiaaDoorStrD
import Derived.Laws.OwnMore
import Derived.Deep.QuietTactic
import Derived.BigQuiet
namespace Go.Proofs.YthldhjifnpfmiaaDoor
open Go.RowKit
set_option linter.unusedSimpArgs false

/-- A row of texts that fills a block of the call's own from its start. -/
def OwnS (w : World) (b : Nat) (xs : List ByteArray) : Prop := Strs w (some ⟨b, 0, none⟩) xs ∧ (∀ o, w.frozen? ⟨b, o, none⟩ = false) ∧ b < w.heap.size
theorem OwnS.call {w w1 : World} {b : Nat} {xs : List ByteArray} (h : OwnS w b xs) (hb : Below w.heap.size w w1) : OwnS w1 b xs :=
  ⟨h.1.call hb, fun o => (hb.frozen (by exact h.2.2)).trans (h.2.1 o), Nat.lt_of_lt_of_le h.2.2 hb.size⟩
theorem OwnS.set {w : World} {b c p : Nat} {v : Value} {xs : List ByteArray} (h : OwnS w b xs) (hne : c ≠ b) : OwnS (w.setCell ⟨c, p, none⟩ v) b xs := by
  refine ⟨⟨h.1.1, ?_⟩, fun o => (World.frozen?_setCell _ _ _ _).trans (h.2.1 o), by simpa [World.setCell] using h.2.2⟩
  rcases h.1.2 with h0 | ⟨cb, co, e, hc⟩
  · exact .inl h0
  · cases e
    exact .inr ⟨b, 0, rfl, fun i hi => (World.cell?_setCell_other _ _ _ _ (fun e => hne (congrArg Addr.block e))).trans (hc i hi)⟩
/-- A row of the call's own that is filled up to k. -/
def FillS (w : World) (g : Nat) (zs : List ByteArray) (k : Nat) (wr : World) : Prop :=
  (∀ i, (h : i < zs.length) → i < k → wr.cell? ⟨g, i, none⟩ = some (.string zs[i])) ∧ (∀ i, i < zs.length → k ≤ i → wr.cell? ⟨g, i, none⟩ = some (.string ⟨#[]⟩)) ∧ (∀ o, wr.frozen? ⟨g, o, none⟩ = false) ∧ g < wr.heap.size ∧ w.heap.size ≤ g ∧ Below w.heap.size w wr
theorem FillS.step {w wr : World} {g k : Nat} {zs : List ByteArray} (h : FillS w g zs k wr) (hk : k < zs.length) : FillS w g zs (k + 1) (wr.setCell ⟨g, k, none⟩ (.string zs[k])) := by
  obtain ⟨h1, h2, h3, h4, h5, h6⟩ := h
  have c := h2 k hk (Nat.le_refl _)
  refine ⟨fun i hi hik => ?_, fun i hi hik => ?_, fun o => (World.frozen?_setCell _ _ _ _).trans (h3 o), by simpa [World.setCell] using h4, h5, h6.setCell (by exact h5) _⟩
  · by_cases e : i = k
    · subst e
      exact World.cell?_setCell_same _ _ _ c
    · rw [World.cell?_setCell_other _ _ _ _ (fun hh => by have hh' : k = i := congrArg Addr.off hh; omega)]
      exact h1 i hi (by omega)
  · rw [World.cell?_setCell_other _ _ _ _ (fun hh => by have hh' : k = i := congrArg Addr.off hh; omega)]
    exact h2 i hi (by omega)
theorem strInfo : (Tryd.prog.info? 9).map (fun i => (i.zero, i.size, i.bytes)) = some (some (.string ⟨#[]⟩), 1, 16) := by kernel_rfl
theorem makeS_c (n : Nat) (hn : n ≤ 1048576) (zs : List ByteArray) (hz : zs.length = n) (w : World) : ∃ w1, (Instr.makeSlice 22 (.int .i64 (n : Int)) (.int .i64 (n : Int))).run Tryd.prog w = .ok (.slice (some ⟨w.heap.size, 0, none⟩) n n) w1 ∧ FillS w w.heap.size zs 0 w1 := by
  obtain ⟨inf, hi, hz0, hz1, hz2⟩ := info_parts strInfo
  obtain ⟨w1, hr, ho, hg⟩ := run_make_full (P := Tryd.prog) w w.heap.size 22 9 inf (.string ⟨#[]⟩) 1 Tryd.underlying22 hi hz0 hz1 .i64 .i64 n (by rw [hz2]; omega) (by unfold maxLen; omega) (Nat.le_refl _)
  refine ⟨w1, hr, fun i hi h0 => by omega, fun i hi _ => ?_, fun o => ho.frozenAt o, (ho.lt w.heap.size rfl).2, Nat.le_refl _, (Below.refl _ _).grown hg (Nat.le_refl _) (fun j hj => by simp at hj)⟩
  rw [ho.cellAt i (by omega)]
  rw [show (Value.string ⟨#[]⟩).cells = #[.string ⟨#[]⟩] from rfl, toList_madeCells_one, List.getElem?_replicate, if_pos (by omega)]

set_option maxHeartbeats 400000 in
theorem toStringS_c (a : Option Addr) (cap : Nat) (zs : List ByteArray) (w : World) (h : Strs w a zs) : Calls Tryd.prog 17 #[.slice a zs.length cap] w fun e w' => e = .returned (.slice (some ⟨w.heap.size, 0, none⟩) zs.length zs.length) ∧ OwnS w' w.heap.size zs ∧ Below w.heap.size w w' := by
  have hl := h.1
  obtain ⟨L, hL⟩ : ∃ L, L = zs.length := ⟨_, rfl⟩
  rw [← hL] at hl ⊢
  have HL := hide hL
  have HH := hide h
  obtain ⟨w1, hmk, hf⟩ := makeS_c L hl zs hL.symm w
  have HF := hide hf
  have hl' : (L : Int) ≤ 1048576 := by omega
  clear h hL hf
  go_enter Tryd.func17, Tryd.ntmps17
  go_wp2
  go_loopw [4] (fun i wr => ∃ k : Nat, k ≤ L ∧ i = .int .i64 k ∧ FillS w w.heap.size zs k wr) (fun i _ => L - (intOf i).toNat)
  case atStart => exact ⟨0, Nat.zero_le _, rfl, unhide HF⟩
  case round =>
    clear HF hmk
    obtain ⟨k, hk, rfl, hf⟩ := hrel
    by_cases hlt : k < L
    · have hk' : k < zs.length := by rw [← unhide HL]; exact hlt
      have HS := hide (hf.step hk')
      obtain ⟨s, hs⟩ : ∃ s, s = zs[k] := ⟨_, rfl⟩
      rcases (unhide HH).2 with h0 | ⟨cb, co, rfl, hc⟩
      · omega
      have hlt' := (unhide HH).lt ⟨cb, co, none⟩ rfl (by omega)
      have c : wr.cell? ⟨cb, co + k, none⟩ = some (.string s) := (hf.2.2.2.2.2.cell (by exact hlt')).trans (by rw [hs]; exact hc k hk')
      have c2 := hf.2.1 k hk' (Nat.le_refl _)
      have f2 := hf.2.2.1 k
      rw [← hs] at HS
      clear hs hc hf
      go_wp2
      go_roundw
      case rel => exact ⟨k + 1, by omega, by go_num, unhide HS⟩
      case measure => simp [intOf]; omega
    · obtain rfl : k = L := by omega
      have HF := hide hf
      clear hf
      go_wp2
      go_ret
      refine ⟨rfl, ⟨⟨by rw [← unhide HL]; exact hl, .inr ⟨w.heap.size, 0, rfl, fun i hi => ?_⟩⟩, (unhide HF).2.2.1, (unhide HF).2.2.2.1⟩, (unhide HF).2.2.2.2.2⟩
      rw [Nat.zero_add]
      exact (unhide HF).1 i hi (by rw [unhide HL]; exact hi)

set_option maxHeartbeats 400000 in
theorem eqStringS_c (a b : Option Addr) (c d : Nat) (zs : List ByteArray) (w : World) (h : Strs w a zs) (h2 : Strs w b zs) : Calls Tryd.prog 24 #[.slice a zs.length c, .slice b zs.length d] w fun e w' => e = .returned (.bool true) ∧ ∃ m, w' = w.drewN m := by
  have hl := h.1
  obtain ⟨L, hL⟩ : ∃ L, L = zs.length := ⟨_, rfl⟩
  rw [← hL] at hl ⊢
  have HL := hide hL
  have HH := hide h
  have HG := hide h2
  have hl' : (L : Int) ≤ 1048576 := by omega
  clear h h2 hL
  go_enter Tryd.func24, Tryd.ntmps24
  go_wp2
  go_loopw [5] (fun i wr => ∃ k m : Nat, k ≤ L ∧ i = .int .i64 k ∧ wr = w.drewN m) (fun i _ => L - (intOf i).toNat)
  case atStart => exact ⟨0, 0, Nat.zero_le _, rfl, rfl⟩
  case round =>
    obtain ⟨k, m, hk, rfl, rfl⟩ := hrel
    by_cases hlt : k < L
    · have hk' : k < zs.length := by rw [← unhide HL]; exact hlt
      obtain ⟨s, hs⟩ : ∃ s, s = zs[k] := ⟨_, rfl⟩
      rcases (unhide HH).2 with h0 | ⟨cb, co, rfl, hc⟩
      · omega
      rcases (unhide HG).2 with h0 | ⟨eb, eo, rfl, hd⟩
      · omega
      have c1 := hc k hk'
      have c2 := hd k hk'
      rw [← hs] at c1 c2
      clear hs hc hd
      go_wp2
      go_quiet (fail)
      go_wp2
      go_roundw
      case rel => exact ⟨k + 1, _, by omega, by go_num, rfl⟩
      case measure => simp [intOf]; omega
    · go_wp2
      go_ret
      exact ⟨rfl, _, rfl⟩
end Go.Proofs.YthldhjifnpfmiaaDoor
