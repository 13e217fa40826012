/- The law on TokenText: its walk. -/
import Derived.Test.YtfhdgfhdpckeaaaDoorTxtE
import Derived.ProofKit
import Derived.OpenShut
import Derived.ChangeVars
import Derived.ChangeOld
import Derived.Deep.Strs
import Derived.Deep.SlicePairs
import Derived.Lib.SmallJoins
namespace Go.Proofs.YtfhdgfhdpckeaaaDoor
open Go.RowKit
set_option linter.unusedSimpArgs false
set_option linter.unusedVariables false

theorem addr_none {w : World} {a : Addr} {v : Value} (h : w.cell? (a.add 0) = some v) : a = ⟨a.block, a.off, none⟩ := by
  have e : a.add 0 = a := by simp [Addr.add]
  rw [e] at h
  have := World.cell?_spot h
  cases a
  simp_all
theorem openV {H : Type} {enc : TypeId × Value → H} {W : World} {fuel : Nat} {v : Value} {y : DataW H × List MemPlace} (h : DataW.trod enc Tryd.prog W 0 (fun _ => true) true fuel 22 [v] = some y) : ∃ a cap xs, v = .slice a (List.length xs) cap ∧ IvsA W a xs := by
  rcases Deep.open_slice_pairs Tryd.underlying22 Tryd.underlying34 (by kernel_rfl) rfl rfl (by kernel_rfl) (by kernel_rfl) h with ⟨hcs, _⟩ | ⟨a, len, cap, m, n, V0, V1, D0, D1, P0, P1, hcs, _, hl, hm, hmm, _, hcell⟩
  · simp at hcs
    subst hcs
    exact ⟨none, 0, [], rfl, by simp, .inl rfl⟩
  · simp at hcs hmm
    subst hcs hmm
    have ml : maxLen ≤ 9223372036854775807 := by decide
    have each : ∀ i, i < len → ∃ q : Int × Int, V0 i = .int .i64 q.1 ∧ V1 i = .int .i64 q.2 := fun i hi => by
      obtain ⟨_, _, h0, h1⟩ := hcell i (by omega)
      obtain ⟨s, e1, _⟩ := DataW.trod_int Tryd.underlying2 h0
      obtain ⟨k, e2, _⟩ := DataW.trod_int Tryd.underlying2 h1
      exact ⟨(s, k), by simpa using e1, by simpa using e2⟩
    obtain ⟨Q, hQ⟩ := Deep.choose_lt each
    refine ⟨some a, m, (List.range len).map Q, by simp, by simp; omega, ?_⟩
    by_cases h0 : len = 0
    · exact .inl (by simp [h0])
    · have c0 := (hcell 0 (by omega)).1
      have ea := addr_none c0
      refine .inr ⟨a.block, a.off, by rw [← ea], fun i hi => ?_⟩
      simp at hi
      obtain ⟨c1, c2, _, _⟩ := hcell i (by omega)
      rw [ea, Addr.add_lit, (hQ i (by omega)).1] at c1
      rw [ea, Addr.add_lit, (hQ i (by omega)).2] at c2
      exact ⟨by simpa using c1, by simpa [Nat.add_assoc] using c2⟩
theorem lawTokenText (a : Option Addr) (cap : Nat) (xs : List (Int × Int)) (w : World) (h : IvsA w a xs) : Calls Tryd.prog 3 #[.slice a xs.length cap] w fun e w' => e = .returned (.bool true) ∧ Below w.heap.size w w' := by
  have hn := h.1
  obtain ⟨V, hV⟩ : ∃ V, V = (if tokB xs = true then txt xs else ⟨#[]⟩) := ⟨_, rfl⟩
  have KS : Hid (∀ (a : Option Addr) (cap : Nat) (w : World), Ivs w a xs → Calls Tryd.prog 5 #[.slice a xs.length cap] w fun e w' => e = .returned (.string V) ∧ Below w.heap.size w w') := fun a cap w h => by rw [hV]; exact sTokenText_c a cap xs w h
  have KI : Hid (∀ (a : Option Addr) (cap : Nat) (w : World), Ivs w a xs → Calls Tryd.prog 7 #[.slice a xs.length cap] w fun e w' => e = .returned (.string V) ∧ Below w.heap.size w w') := fun a cap w h => by rw [hV]; exact iTokenText_c a cap xs w h
  clear hV
  have HH := hide h
  obtain ⟨s, hs⟩ : ∃ s, s = sz1 xs.length 1048576 := ⟨_, rfl⟩
  have HS := hide hs
  have hb := sz1_le xs.length 1048576 (by omega)
  rw [← hs] at hb
  have HB := hide hb
  clear h hs hb
  by_cases h0 : s < 0
  · go_enter Tryd.func3, Tryd.ntmps3
    go_wp2_with fail
    refine (szEntryS_c _ _ _ _ hn (by omega) (by omega) _).mono ?_
    rintro e w1 ⟨rfl, rfl⟩
    rw [← unhide HS]
    go_wp2
    go_ret
    exact ⟨rfl, Below.refl _ _⟩
  · have HI := hide (Ivs.ofA (unhide HH) ((unhide HB).2.2 (by omega)))
    go_enter Tryd.func3, Tryd.ntmps3
    go_wp2_with fail
    refine (szEntryS_c _ _ _ _ hn (by omega) (by omega) _).mono ?_
    rintro e w1 ⟨rfl, rfl⟩
    rw [← unhide HS]
    go_wp2_with fail
    refine (toEntryS_c _ _ _ _ (unhide HI)).mono ?_
    rintro e w2 ⟨rfl, o2, b2⟩
    go_wp2_with fail
    refine ((unhide KS) _ _ _ o2.1).mono ?_
    rintro e w3 ⟨rfl, b3⟩
    have b2 := b2.trans (b3.mono b2.size)
    clear o2 b3
    have HI2 := hide ((unhide HI).call b2)
    have B2 := hide b2
    clear b2
    go_wp2_with fail
    refine (toEntryS_c _ _ _ _ (unhide HI2)).mono ?_
    rintro e w4 ⟨rfl, o4, b4⟩
    have B4 := hide ((unhide B2).trans (b4.mono (unhide B2).size))
    clear b4
    go_wp2_with fail
    refine ((unhide KI) _ _ _ o4.1).mono ?_
    rintro e w5 ⟨rfl, b5⟩
    have O5 := hide (o4.call b5)
    have B5 := hide ((unhide B4).trans (b5.mono (unhide B4).size))
    clear o4 b5
    have HI5 := hide ((unhide HI).call (unhide B5))
    go_wp2_with fail
    refine (toEntryS_c _ _ _ _ (unhide HI5)).mono ?_
    rintro e w6 ⟨rfl, o6, b6⟩
    have O6 := hide ((unhide O5).call b6)
    have B6 := hide ((unhide B5).trans (b6.mono (unhide B5).size))
    have P6 := hide o6
    clear o6 b6
    go_wp2_with fail
    refine (eqEntryS_c _ _ _ _ _ _ (unhide O6).1 (unhide P6).1).mono ?_
    rintro e w7 ⟨rfl, b7⟩
    have B7 := hide ((unhide B6).trans (b7.mono (unhide B6).size))
    clear b7
    go_wp2
    go_ret
    exact ⟨rfl, unhide B7⟩
end Go.Proofs.YtfhdgfhdpckeaaaDoor
