/- Rows of rows of numbers; the laws' copies of them. -/
import Derived.Test.YtcceeejmppamdaaDoorStoC
namespace Go.Proofs.YtcceeejmppamdaaDoor
open Go.RowKit
set_option linter.unusedSimpArgs false

/-- So many rows of numbers at an address. -/
def Mats (w : World) (a : Option Addr) (xss : List (List Int)) : Prop :=
  xss.length ≤ 1048576 ∧ (xss.length = 0 ∨ ∃ cb co, a = some ⟨cb, co, none⟩ ∧ ∀ i, (h : i < xss.length) → ∃ b c, w.cell? ⟨cb, co + i, none⟩ = some (.slice b xss[i].length c) ∧ Ints w b xss[i])
theorem Mats.call {w w1 : World} {a : Option Addr} {xss : List (List Int)} (h : Mats w a xss) (hb : Below w.heap.size w w1) : Mats w1 a xss := by
  refine ⟨h.1, ?_⟩
  rcases h.2 with h0 | ⟨cb, co, rfl, hc⟩
  · exact .inl h0
  · refine .inr ⟨cb, co, rfl, fun i hi => ?_⟩
    obtain ⟨b, c, h1, h2⟩ := hc i hi
    exact ⟨b, c, (hb.cell (World.block_lt_of_cell? w _ h1)).trans h1, h2.call hb⟩
/-- A row of rows of the call's own that is filled up to k. -/
def FillJ (w : World) (g : Nat) (zss : List (List Int)) (k : Nat) (wr : World) : Prop :=
  (∀ i, (h : i < zss.length) → i < k → ∃ gi, g < gi ∧ wr.cell? ⟨g, i, none⟩ = some (.slice (some ⟨gi, 0, none⟩) zss[i].length zss[i].length) ∧ OwnI wr gi zss[i]) ∧ (∀ i, i < zss.length → k ≤ i → wr.cell? ⟨g, i, none⟩ = some (.slice none 0 0)) ∧ (∀ o, wr.frozen? ⟨g, o, none⟩ = false) ∧ g < wr.heap.size ∧ w.heap.size ≤ g ∧ Below w.heap.size w wr
theorem FillJ.call {w wr w1 : World} {g k : Nat} {zss : List (List Int)} (h : FillJ w g zss k wr) (hb : Below wr.heap.size wr w1) : FillJ w g zss k w1 := by
  obtain ⟨h1, h2, h3, h4, h5, h6⟩ := h
  have c : ∀ o, w1.cell? ⟨g, o, none⟩ = wr.cell? ⟨g, o, none⟩ := fun o => hb.cell (by exact h4)
  refine ⟨fun i hi hk => ?_, fun i hi hk => by rw [c]; exact h2 i hi hk, fun o => (hb.frozen (by exact h4)).trans (h3 o), Nat.lt_of_lt_of_le h4 hb.size, h5, h6.trans (hb.mono h6.size)⟩
  obtain ⟨gi, q0, q1, q2⟩ := h1 i hi hk
  exact ⟨gi, q0, by rw [c]; exact q1, q2.call hb⟩
theorem FillJ.step {w wr : World} {g k gk : Nat} {zss : List (List Int)} (h : FillJ w g zss k wr) (hk : k < zss.length) (hg : g < gk) (ho : OwnI wr gk zss[k]) : FillJ w g zss (k + 1) (wr.setCell ⟨g, k, none⟩ (.slice (some ⟨gk, 0, none⟩) zss[k].length zss[k].length)) := by
  obtain ⟨h1, h2, h3, h4, h5, h6⟩ := h
  have c := h2 k hk (Nat.le_refl _)
  refine ⟨fun i hi hik => ?_, fun i hi hik => ?_, fun o => (World.frozen?_setCell _ _ _ _).trans (h3 o), by simpa [World.setCell] using h4, h5, h6.setCell (by exact h5) _⟩
  · by_cases e : i = k
    · subst e
      exact ⟨gk, hg, World.cell?_setCell_same _ _ _ c, ho.set (by omega)⟩
    · obtain ⟨gi, q0, q1, q2⟩ := h1 i hi (by omega)
      refine ⟨gi, q0, ?_, q2.set (by omega)⟩
      rw [World.cell?_setCell_other _ _ _ _ (fun hh => by have hh' : k = i := congrArg Addr.off hh; omega)]
      exact q1
  · rw [World.cell?_setCell_other _ _ _ _ (fun hh => by have hh' : k = i := congrArg Addr.off hh; omega)]
    exact h2 i hi (by omega)
theorem matInfo : (Tryd.prog.info? 43).map (fun i => (i.zero, i.size, i.bytes)) = some (some (.slice none 0 0), 1, 24) := by kernel_rfl
theorem makeJ_c (n : Nat) (hn : n ≤ 1048576) (zss : List (List Int)) (hz : zss.length = n) (w : World) : ∃ w1, (Instr.makeSlice 45 (.int .i64 (n : Int)) (.int .i64 (n : Int))).run Tryd.prog w = .ok (.slice (some ⟨w.heap.size, 0, none⟩) n n) w1 ∧ FillJ w w.heap.size zss 0 w1 := by
  obtain ⟨inf, hi, hz0, hz1, hz2⟩ := info_parts matInfo
  obtain ⟨w1, hr, ho, hg⟩ := run_make_full (P := Tryd.prog) w w.heap.size 45 43 inf (.slice none 0 0) 1 Tryd.underlying45 hi hz0 hz1 .i64 .i64 n (by rw [hz2]; omega) (by unfold maxLen; omega) (Nat.le_refl _)
  refine ⟨w1, hr, fun i hi h0 => by omega, fun i hi _ => ?_, fun o => ho.frozenAt o, (ho.lt w.heap.size rfl).2, Nat.le_refl _, (Below.refl _ _).grown hg (Nat.le_refl _) (fun j hj => by simp at hj)⟩
  rw [ho.cellAt i (by omega)]
  rw [show (Value.slice none 0 0).cells = #[.slice none 0 0] from rfl, toList_madeCells_one, List.getElem?_replicate, if_pos (by omega)]
/-- A row of rows of the call's own. -/
def OwnJ (w : World) (b : Nat) (xss : List (List Int)) : Prop := xss.length ≤ 1048576 ∧ (∀ i, (h : i < xss.length) → ∃ gi, b < gi ∧ w.cell? ⟨b, i, none⟩ = some (.slice (some ⟨gi, 0, none⟩) xss[i].length xss[i].length) ∧ OwnI w gi xss[i]) ∧ (∀ o, w.frozen? ⟨b, o, none⟩ = false) ∧ b < w.heap.size
set_option maxHeartbeats 1000000 in
theorem toInt64SS_c (a : Option Addr) (cap : Nat) (zss : List (List Int)) (w : World) (h : Mats w a zss) : Calls Tryd.prog 41 #[.slice a zss.length cap] w fun e w' => e = .returned (.slice (some ⟨w.heap.size, 0, none⟩) zss.length zss.length) ∧ OwnJ w' w.heap.size zss ∧ Below w.heap.size w w' := by
  have hl := h.1
  obtain ⟨L, hL⟩ : ∃ L, L = zss.length := ⟨_, rfl⟩
  rw [← hL] at hl ⊢
  have HL := hide hL
  have HH := hide h
  obtain ⟨w1, hmk, hf⟩ := makeJ_c L hl zss hL.symm w
  have HF := hide hf
  have hl' : (L : Int) ≤ 1048576 := by omega
  clear h hL hf
  go_enter Tryd.func41, Tryd.ntmps41
  go_wp2
  go_loopw [4] (fun i wr => ∃ k : Nat, k ≤ L ∧ i = .int .i64 k ∧ FillJ w w.heap.size zss k wr) (fun i _ => L - (intOf i).toNat)
  case atStart => exact ⟨0, Nat.zero_le _, rfl, unhide HF⟩
  case round =>
    clear HF hmk
    obtain ⟨k, hk, rfl, hf⟩ := hrel
    by_cases hlt : k < L
    · have hk' : k < zss.length := by rw [← unhide HL]; exact hlt
      rcases ((unhide HH).call hf.2.2.2.2.2).2 with h0 | ⟨cb, co, rfl, hc⟩
      · omega
      obtain ⟨b, c, d1, d2⟩ := hc k hk'
      have HD := hide d2
      have HQ := hide hf
      clear hc hf d2
      go_wp2_with fail
      refine (toInt64S_c b c zss[k] _ (unhide HD)).mono ?_
      rintro e w2 ⟨rfl, ho, hb⟩
      have hf := (unhide HQ).call hb
      have HS := hide (hf.step hk' (unhide HQ).2.2.2.1 ho)
      have c2 := hf.2.1 k hk' (Nat.le_refl _)
      have f2 := hf.2.2.1 k
      clear hf hb ho HQ d1
      go_wp2
      go_roundw
      case rel => exact ⟨k + 1, by omega, by go_num, unhide HS⟩
      case measure => simp [intOf]; omega
    · obtain rfl : k = L := by omega
      have HF := hide hf
      clear hf
      go_wp2
      go_ret
      exact ⟨rfl, ⟨by rw [← unhide HL]; exact hl, fun i hi => (unhide HF).1 i hi (by rw [unhide HL]; exact hi), (unhide HF).2.2.1, (unhide HF).2.2.2.1⟩, (unhide HF).2.2.2.2.2⟩
end Go.Proofs.YtcceeejmppamdaaDoor
