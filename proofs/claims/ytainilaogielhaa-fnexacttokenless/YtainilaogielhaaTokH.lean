/- The walk of the law of TokenLess. -/
import Derived.Test.YtainilaogielhaaTokO
import Derived.Test.YtainilaogielhaaTokG
namespace Go.Proofs.Ytainilaogielhaa
open Go.ChangeShapes Go.WideShapes Go.ChangeAt Go.RowKit
set_option linter.unusedSimpArgs false

set_option maxHeartbeats 1000000 in
theorem lawTokenLess (a b : Option Addr) (ca cb : Nat) (xs ys : List (Int × Int)) (w : World) (h : IvsA w a xs) (h2 : IvsA w b ys) : Calls Try.prog 5 #[.slice a xs.length ca, .slice b ys.length cb] w fun e w' => e = .returned (.bool true) ∧ Below w.heap.size w w' := by
  have hn := h.1
  have hm := h2.1
  have HH := hide h
  have HG := hide h2
  obtain ⟨s, hs⟩ : ∃ s, s = sz1 xs.length 1048576 := ⟨_, rfl⟩
  have HS := hide hs
  have hb := sz1_le xs.length 1048576 (by omega)
  rw [← hs] at hb
  have HB := hide hb
  have hs1 := hb.1
  clear h h2 hs hb
  by_cases h0 : s < 0
  · go_enter Try.func5, Try.ntmps5
    go_wp2_with fail
    refine (szEntryS_c _ _ _ _ hn (by omega) (by omega) _).mono ?_
    rintro e w1 ⟨rfl, rfl⟩
    rw [← unhide HS]
    go_wp2
    go_ret
    exact ⟨rfl, Below.refl _ _⟩
  · have HI := hide (Ivs.ofA (unhide HH) ((unhide HB).2.2 (by omega)))
    obtain ⟨t, ht⟩ : ∃ t, t = sz1 ys.length s := ⟨_, rfl⟩
    have HT := hide ht
    have hb := sz1_le ys.length s (by omega)
    rw [← ht] at hb
    have HC := hide hb
    clear ht hb
    by_cases h1 : t < 0
    · go_enter Try.func5, Try.ntmps5
      go_wp2_with fail
      refine (szEntryS_c _ _ _ _ hn (by omega) (by omega) _).mono ?_
      rintro e w1 ⟨rfl, rfl⟩
      rw [← unhide HS]
      go_wp2_with fail
      refine (szEntryS_c _ _ _ _ hm (by omega) (by omega) _).mono ?_
      rintro e w1 ⟨rfl, rfl⟩
      rw [← unhide HT]
      go_wp2
      go_ret
      exact ⟨rfl, Below.refl _ _⟩
    · have HJ := hide (Ivs.ofA (unhide HG) (by have := (unhide HC).2.2 (by omega); omega))
      go_enter Try.func5, Try.ntmps5
      go_wp2_with fail
      refine (szEntryS_c _ _ _ _ hn (by omega) (by omega) _).mono ?_
      rintro e w1 ⟨rfl, rfl⟩
      rw [← unhide HS]
      go_wp2_with fail
      refine (szEntryS_c _ _ _ _ hm (by omega) (by omega) _).mono ?_
      rintro e w1 ⟨rfl, rfl⟩
      rw [← unhide HT]
      -- the specification's answer
      go_wp2_with fail
      refine (toEntryS_c _ _ _ _ (unhide HI)).mono ?_
      rintro e w2 ⟨rfl, o2, b2⟩
      have O2 := hide o2
      have B2 := hide b2
      clear o2 b2
      go_wp2_with fail
      refine (toEntryS_c _ _ _ _ ((unhide HJ).call (unhide B2))).mono ?_
      rintro e w3 ⟨rfl, o3, b3⟩
      have O2 := hide ((unhide O2).call b3)
      have O3 := hide o3
      have B3 := hide ((unhide B2).trans (b3.mono (unhide B2).size))
      clear o3 b3
      go_wp2_with fail
      refine (sTokenLess_c _ _ _ _ _ _ _ (unhide O2).1 (unhide O3).1).mono ?_
      rintro e w4 ⟨rfl, b4⟩
      have B4 := hide ((unhide B3).trans (b4.mono (unhide B3).size))
      clear b4 O2 O3
      -- the program's
      go_wp2_with fail
      refine (toEntryS_c _ _ _ _ ((unhide HI).call (unhide B4))).mono ?_
      rintro e w5 ⟨rfl, o5, b5⟩
      have O5 := hide o5
      have B5 := hide ((unhide B4).trans (b5.mono (unhide B4).size))
      clear o5 b5
      go_wp2_with fail
      refine (toEntryS_c _ _ _ _ ((unhide HJ).call (unhide B5))).mono ?_
      rintro e w6 ⟨rfl, o6, b6⟩
      have O5 := hide ((unhide O5).call b6)
      have O6 := hide o6
      have B6 := hide ((unhide B5).trans (b6.mono (unhide B5).size))
      clear o6 b6
      go_wp2_with fail
      refine (TokenLess_c _ _ _ _ _ _ _ (unhide O5).1 (unhide O6).1).mono ?_
      rintro e w7 ⟨rfl, b7⟩
      have O5 := hide ((unhide O5).call b7)
      have O6 := hide ((unhide O6).call b7)
      have B7 := hide ((unhide B6).trans (b7.mono (unhide B6).size))
      clear b7
      -- both copies are as they were
      go_wp2_with fail
      refine (toEntryS_c _ _ _ _ ((unhide HI).call (unhide B7))).mono ?_
      rintro e w8 ⟨rfl, o8, b8⟩
      have O5 := hide ((unhide O5).call b8)
      have O6 := hide ((unhide O6).call b8)
      have O8 := hide o8
      have B8 := hide ((unhide B7).trans (b8.mono (unhide B7).size))
      clear o8 b8
      go_wp2_with fail
      refine (eqEntryS_c _ _ _ _ _ _ (unhide O5).1 (unhide O8).1).mono ?_
      rintro e w9 ⟨rfl, b9⟩
      have O6 := hide ((unhide O6).call b9)
      have B9 := hide ((unhide B8).trans (b9.mono (unhide B8).size))
      clear b9
      go_wp2_with fail
      refine (toEntryS_c _ _ _ _ ((unhide HJ).call (unhide B9))).mono ?_
      rintro e wa ⟨rfl, oa, ba⟩
      have O6 := hide ((unhide O6).call ba)
      have OA := hide oa
      have BA := hide ((unhide B9).trans (ba.mono (unhide B9).size))
      clear oa ba
      go_wp2_with fail
      refine (eqEntryS_c _ _ _ _ _ _ (unhide O6).1 (unhide OA).1).mono ?_
      rintro e wb ⟨rfl, bb⟩
      have BB := hide ((unhide BA).trans (bb.mono (unhide BA).size))
      clear bb
      go_wp2
      go_ret
      exact ⟨rfl, unhide BB⟩
end Go.Proofs.Ytainilaogielhaa
