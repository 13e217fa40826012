/- The part of a token, and parts within parts, as the specification tells it. -/
import Derived.Test.YthldhjifnpfmiaaGreatDoorParP
namespace Go.Proofs.YthldhjifnpfmiaaGreatDoor
open Go.RowKit
set_option linter.unusedSimpArgs false
set_option linter.unusedVariables false

/-- Where the part of a token lies. -/
def FindR (ps : List PR) (t : List (Int × Int)) (n : Int) : Prop := (n = -1 ∧ ∀ i, (h : i < ps.length) → ps[i].1 ≠ t) ∨ ∃ i, ∃ h : i < ps.length, n = (i : Int) ∧ ps[i].1 = t
set_option maxHeartbeats 1000000 in
theorem l9Find_c (a b : Option Addr) (c d : Nat) (ps : List PR) (t : List (Int × Int)) (w : World) (h : Parts w a ps) (h2 : Ivs w b t) (ht : ∀ i, (hi : i < ps.length) → tokB ps[i].1 = true) (tb : tokB t = true) :
    Calls Tryz.prog 27 #[.slice a ps.length c, .slice b t.length d] w fun e w' => ∃ n : Int, e = .returned (.int .i64 n) ∧ FindR ps t n ∧ Below w.heap.size w w' := by
  have hl := h.1
  have HA := hide h
  have HI := hide h2
  have HT := hide ht
  have TB := hide tb
  obtain ⟨L, hL⟩ : ∃ L, L = ps.length := ⟨_, rfl⟩
  have HL := hide hL
  rw [← hL] at hl ⊢
  have hl' : (L : Int) ≤ 1048576 := by omega
  clear h h2 ht tb hL
  go_enter Tryz.func27, Tryz.ntmps27
  go_wp2_with fail
  go_loopw [5] (fun i wr => ∃ k : Nat, k ≤ L ∧ i = .int .i64 k ∧ (∀ j, (hj : j < ps.length) → j < k → ps[j].1 ≠ t) ∧ Below w.heap.size w wr) (fun i _ => L - (intOf i).toNat)
  case atStart => exact ⟨0, Nat.zero_le _, rfl, fun j _ h0 => by omega, Below.refl _ _⟩
  case round =>
    obtain ⟨k, hk, rfl, ha, hb⟩ := hrel
    have HN := hide ha
    have HB := hide hb
    clear ha hb
    by_cases hlt : k < L
    · have hk' : k < ps.length := by rw [← unhide HL]; exact hlt
      rcases ((unhide HA).call (unhide HB)).2 with h0 | ⟨cb, co, rfl, hc⟩
      · omega
      obtain ⟨xa, xc, ya, yc, c1, c2, i1, i2⟩ := hc k hk'
      have HX := hide i1
      have TK := hide ((unhide HT) k hk')
      obtain ⟨s, hs⟩ : ∃ s, s = ps[k].1 := ⟨_, rfl⟩
      have PS := hide hs
      rw [← hs] at c1 HX TK
      clear hc i1 i2 hs c2
      go_wp2_with fail
      refine (l9Cmp_c xa b xc d s t wr (unhide HX) ((unhide HI).call (unhide HB)) (unhide TK) (unhide TB)).mono ?_
      rintro e V1 ⟨rfl, kb⟩
      have HB := hide ((unhide HB).trans (kb.mono (unhide HB).size))
      clear kb c1
      have Z := hide (tokC_zero s t)
      have S := hide (tokC_self t)
      generalize hx : tokC s t = x at Z ⊢
      have HX2 := hide hx
      clear hx
      by_cases hz : x = 0
      · have hz' : (x == 0) = true := by simpa using hz
        have E := hide ((unhide Z) hz)
        clear hz
        go_wp2
        go_ret
        exact ⟨_, rfl, .inr ⟨k, hk', rfl, (unhide PS).symm.trans (unhide E)⟩, unhide HB⟩
      · have hz' : (x == 0) = false := by simpa using hz
        have E := hide (show s ≠ t from fun e => hz (by rw [← unhide HX2, e]; exact unhide S))
        clear hz
        go_wp2
        go_roundw
        case rel => exact ⟨k + 1, by omega, by go_num, fun j hj h1 => by
          by_cases e : j = k
          · subst e; exact fun q => unhide E ((unhide PS).trans q)
          · exact unhide HN j hj (by omega), unhide HB⟩
        case measure => simp [intOf]; omega
    · obtain rfl : k = L := by omega
      go_wp2
      go_ret
      exact ⟨-1, rfl, .inl ⟨rfl, fun i hi => unhide HN i hi (by rw [unhide HL]; exact hi)⟩, unhide HB⟩
end Go.Proofs.YthldhjifnpfmiaaGreatDoor
