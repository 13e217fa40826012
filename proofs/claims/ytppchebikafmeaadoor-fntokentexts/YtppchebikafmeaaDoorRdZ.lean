/- Reading a token: the walk of the exact law. -/
import Derived.Test.YtppchebikafmeaaDoorMarkE
namespace Go.Proofs.YtppchebikafmeaaDoor
open Go.RowKit
set_option linter.unusedSimpArgs false
set_option linter.unusedVariables false

theorem RT_len {s : ByteArray} {t : List (Int × Int)} {b : Bool} (h : RT s t b) : t.length ≤ 3 := by
  rcases h with ⟨_, h1, _⟩ | ⟨_, h2, _⟩
  · unfold tokB at h1; rw [Bool.and_eq_true] at h1; exact of_decide_eq_true h1.1
  · rw [h2]; simp
set_option maxRecDepth 20000 in
set_option maxHeartbeats 8000000 in
theorem lawReadToken (s : ByteArray) (w : World) (hw : ERR w) (hs : s.size ≤ maxLen) : Calls Tryd.prog 5 #[.string s] w fun e w' => e = .returned (.bool true) ∧ Below w.heap.size w w' := by
  have HW := hide hw
  have hml : (s.size : Int) ≤ 9223372036854775807 := by unfold maxLen at hs; omega
  obtain ⟨t, b, hr⟩ := RT_ex s
  have HR := hide hr
  have HL := hide (RT_len hr)
  clear hw hr hs
  by_cases hz : (s.size : Int) ≤ 1048576
  · have hz' : ¬ (1048576 : Int) < (s.size : Int) := by omega
    have hs : s.size ≤ 1048576 := by omega
    go_enter Tryd.func5, Tryd.ntmps5
    go_wp2_with fail
    refine (sReadToken_c s hs t b (unhide HR) _).mono ?_
    rintro e u1 ⟨oc, cc, rfl, ho, kb⟩
    have HO1 := hide ho
    have HK1 := hide kb
    clear ho kb
    go_wp2_with fail
    refine (iReadToken_c s hs t b (unhide HR) _ ((unhide HW).call (unhide HK1))).mono ?_
    rintro e u2 ⟨od, cd, rfl, ho, kb⟩
    have HO2 := hide ho
    have HB2 := hide kb
    clear ho kb
    have HI2 := hide ((unhide HO2).ivs (by have := unhide HL; omega))
    have HI1 := hide (RowN.ivs (own_call (unhide HO1) (unhide HB2)) (by have := unhide HL; omega))
    go_wp2_with fail
    refine (eqEntryS_c _ _ _ _ t _ (unhide HI2) (unhide HI1)).mono ?_
    rintro e u3 ⟨rfl, kb⟩
    have HB3 := hide ((unhide HB2).trans (kb.mono (unhide HB2).size))
    have HO2 := hide (own_call (unhide HO2) kb)
    clear kb HI1 HI2 HB2
    go_wp2_with fail
    refine (markOwn_c od cd _ t 1 (by omega) (by have := unhide HL; omega) _ (unhide HO2) (unhide HB3).size).mono ?_
    rintro e u4 ⟨rfl, hm, kb⟩
    have HM4 := hide hm
    have HB4 := hide ((unhide HB3).trans kb)
    clear kb hm HB3
    have hl3 : (t.length : Int) ≤ 3 := by have := unhide HL; omega
    have hn0 : ¬ (1 + 2 * (t.length : Int)) < 0 := by omega
    go_wp2_with fail
    refine (heldOwn_c od cd _ t.length 1 (by omega) (by have := unhide HL; omega) _ (unhide HM4)).mono ?_
    rintro e u5 ⟨rfl, rfl⟩
    go_wp2_with fail
    refine (iReadToken_c s hs t b (unhide HR) _ ((unhide HW).call ((unhide HK1).trans ((unhide HB4).mono (unhide HK1).size)))).mono ?_
    rintro e u6 ⟨og, cg, rfl, ho, kb⟩
    have HI6 := hide (RowN.ivs ho (by have := unhide HL; omega))
    have HM6 := hide ((unhide HM4).call kb)
    have HB6 := hide ((unhide HB4).trans (kb.mono (unhide HB4).size))
    clear ho kb HM4 HB4
    have HI1 := hide (RowN.ivs (own_call (unhide HO1) (unhide HB6)) (by have := unhide HL; omega))
    go_wp2_with fail
    refine (eqEntryS_c _ _ _ _ t _ (unhide HI6) (unhide HI1)).mono ?_
    rintro e u7 ⟨rfl, kb⟩
    have HM7 := hide ((unhide HM6).call kb)
    have HB7 := hide ((unhide HB6).trans (kb.mono (unhide HB6).size))
    clear kb HM6 HB6 HI1 HI6
    go_wp2_with fail
    refine (heldOwn_c od cd _ t.length 1 (by omega) (by have := unhide HL; omega) _ (unhide HM7)).mono ?_
    rintro e u8 ⟨rfl, rfl⟩
    go_wp2
    go_ret
    exact ⟨rfl, (unhide HK1).trans ((unhide HB7).mono (unhide HK1).size)⟩
  · have hz' : (1048576 : Int) < (s.size : Int) := by omega
    go_enter Tryd.func5, Tryd.ntmps5
    go_wp2
    go_ret
    exact ⟨rfl, Below.refl _ _⟩
end Go.Proofs.YtppchebikafmeaaDoor
