/- Rows of rows of numbers: compared, and how much of a size is left behind them. -/
import Derived.Test.YtcceeejmppamdaaDoorStoD
import Derived.Test.YtcceeejmppamdaaDoorDeclC
namespace Go.Proofs.YtcceeejmppamdaaDoor
open Go.RowKit
set_option linter.unusedSimpArgs false

theorem OwnJ.mats {w : World} {b : Nat} {xss : List (List Int)} (h : OwnJ w b xss) : Mats w (some ⟨b, 0, none⟩) xss :=
  ⟨h.1, .inr ⟨b, 0, rfl, fun i hi => by obtain ⟨gi, _, q1, q2⟩ := h.2.1 i hi; exact ⟨_, _, by rw [Nat.zero_add]; exact q1, q2.1⟩⟩⟩
theorem OwnJ.call {w w1 : World} {b : Nat} {xss : List (List Int)} (h : OwnJ w b xss) (hb : Below w.heap.size w w1) : OwnJ w1 b xss := by
  obtain ⟨h0, h1, h3, h4⟩ := h
  refine ⟨h0, fun i hi => ?_, fun o => (hb.frozen (by exact h4)).trans (h3 o), Nat.lt_of_lt_of_le h4 hb.size⟩
  obtain ⟨gi, q0, q1, q2⟩ := h1 i hi
  exact ⟨gi, q0, (hb.cell (by exact h4)).trans q1, q2.call hb⟩
theorem OwnJ.set {w : World} {b c p : Nat} {v : Value} {xss : List (List Int)} (h : OwnJ w b xss) (hne : c < b) : OwnJ (w.setCell ⟨c, p, none⟩ v) b xss := by
  obtain ⟨h0, h1, h3, h4⟩ := h
  refine ⟨h0, fun i hi => ?_, fun o => (World.frozen?_setCell _ _ _ _).trans (h3 o), by simpa [World.setCell] using h4⟩
  obtain ⟨gi, q0, q1, q2⟩ := h1 i hi
  exact ⟨gi, q0, (World.cell?_setCell_other _ _ _ _ (fun e => by have : c = b := congrArg Addr.block e; omega)).trans q1, q2.set (by omega)⟩
set_option maxHeartbeats 1000000 in
theorem eqInt64SS_c (a b : Option Addr) (c d : Nat) (zss : List (List Int)) (w : World) (h : Mats w a zss) (h2 : Mats w b zss) : Calls Tryd.prog 47 #[.slice a zss.length c, .slice b zss.length d] w fun e w' => e = .returned (.bool true) ∧ Below w.heap.size w w' := by
  have hl := h.1
  obtain ⟨L, hL⟩ : ∃ L, L = zss.length := ⟨_, rfl⟩
  rw [← hL] at hl ⊢
  have HL := hide hL
  have HH := hide h
  have HG := hide h2
  have hl' : (L : Int) ≤ 1048576 := by omega
  clear h h2 hL
  go_enter Tryd.func47, Tryd.ntmps47
  go_wp2
  go_loopw [5] (fun i wr => ∃ k : Nat, k ≤ L ∧ i = .int .i64 k ∧ Below w.heap.size w wr) (fun i _ => L - (intOf i).toNat)
  case atStart => exact ⟨0, Nat.zero_le _, rfl, Below.refl _ _⟩
  case round =>
    obtain ⟨k, hk, rfl, hb⟩ := hrel
    have HB := hide hb
    by_cases hlt : k < L
    · have hk' : k < zss.length := by rw [← unhide HL]; exact hlt
      rcases ((unhide HH).call hb).2 with h0 | ⟨cb, co, rfl, hc⟩
      · omega
      rcases ((unhide HG).call hb).2 with h0 | ⟨eb, eo, rfl, hd⟩
      · omega
      obtain ⟨ba, bc, c1, i1⟩ := hc k hk'
      obtain ⟨da, dc, c2, i2⟩ := hd k hk'
      have I1 := hide i1
      have I2 := hide i2
      have hk2 : H2 w ⟨cb, co + k, none⟩ ⟨eb, eo + k, none⟩ (.slice ba zss[k].length bc) (.slice da zss[k].length dc) wr := ⟨c1, c2, hb⟩
      clear hc hd hb i1 i2
      go_wp2
      go_region_held3 (H2 w ⟨cb, co + k, none⟩ ⟨eb, eo + k, none⟩ (.slice ba zss[k].length bc) (.slice da zss[k].length dc))
        (first | exact H2.drew (by assumption) | exact hq)
        (first | (go_at_call 45; refine (eqInt64S_c ba da bc dc zss[k] _ ((unhide I1).call (bdrew wr 1)) ((unhide I2).call (bdrew wr 1))).mono ?_; rintro e w1 ⟨rfl, m, rfl⟩; have hq := H2.call (bdrew wr (1 + m)) hk2))
      have HQ := hide hq.2.2
      clear hq hk2 c1 c2
      rename_i hHeld
      clear hHeld
      go_wp2
      go_roundw
      case rel => exact ⟨k + 1, by omega, by go_num, unhide HQ⟩
      case measure => simp [intOf]; omega
    · clear hb
      go_wp2
      go_ret
      exact ⟨rfl, unhide HB⟩
end Go.Proofs.YtcceeejmppamdaaDoor
