/- The law on ReadAlarm: its walk. -/
import Derived.Test.YtghommnbnafmkaaDoorAlmU
import Derived.Test.YtghommnbnafmkaaDoorAlmO
namespace Go.Proofs.YtghommnbnafmkaaDoor
open Go.RowKit Go.ChangeShapes Go.WideShapes Go.ChangeAt
set_option linter.unusedSimpArgs false
set_option linter.unusedVariables false

theorem eqAlarm_c (s : Int) (z : Int) (w : World) : Calls Tryd.prog 14 #[.agg #[.int .i64 s, .int .i64 z], .agg #[.int .i64 s, .int .i64 z]] w fun e w' => e = .returned (.bool true) ∧ Below w.heap.size w w' := by
  go_enter Tryd.func14, Tryd.ntmps14
  go_wp2
  go_ret
  exact ⟨rfl, ((Below.refl _ _).alloc (Nat.le_refl _) _).alloc (by simp) _⟩
set_option maxRecDepth 20000 in
set_option maxHeartbeats 4000000 in
theorem lawReadAlarm (s : ByteArray) (w : World) (hw : ALW w ∧ ERR w) (hs : s.size ≤ maxLen) : Calls Tryd.prog 5 #[.string s] w fun e w' => e = .returned (.bool true) ∧ Below w.heap.size w w' := by
  have HW := hide hw
  have hml : (s.size : Int) ≤ 9223372036854775807 := by unfold maxLen at hs; omega
  obtain ⟨l, K, b, hr⟩ := RA_ex s
  have HR := hide hr
  clear hw hr hs
  by_cases hz : (s.size : Int) ≤ 1048576
  · have hz' : ¬ (1048576 : Int) < (s.size : Int) := by omega
    have hs : s.size ≤ 1048576 := by omega
    go_enter Tryd.func5, Tryd.ntmps5
    go_wp2_with fail
    refine (sReadAlarm_c s hs l K b (unhide HR) _).mono ?_
    rintro e u ⟨rfl, kb⟩
    have HK := hide kb
    clear kb
    have HA := hide (D2.new u (.int .i64 l) (.int .i64 K) 25)
    go_wp2_with fail
    generalize u.alloc (Obj.cells #[.int .i64 l, .int .i64 K] 25) = x at HA ⊢
    have HK := hide ((unhide HK).trans ((unhide HA).2.mono (unhide HK).size))
    refine (iReadAlarm_c s hs l K b (unhide HR) _ ((unhide HW).1.call (unhide HK)) ((unhide HW).2.call (unhide HK))).mono ?_
    rintro e u2 ⟨rfl, kb⟩
    have HA := hide ((unhide HA).call kb)
    have HK := hide ((unhide HK).trans (kb.mono (unhide HK).size))
    clear kb
    have HA2 := hide (D2.new u2 (.int .i64 l) (.int .i64 K) 25)
    have HA3 := hide ((unhide HA).call (unhide HA2).2)
    go_upto_region 5 with fail
    generalize u2.alloc (Obj.cells #[.int .i64 l, .int .i64 K] 25) = y at HA2 HA3 ⊢
    have HK := hide ((unhide HK).trans ((unhide HA2).2.mono (unhide HK).size))
    have a0 := (unhide HA2).1.1
    have a1 := (unhide HA2).1.2.1
    have b0 := (unhide HA3).1.1
    have b1 := (unhide HA3).1.2.1
    go_wp2_with fail
    refine (eqAlarm_c l K _).mono ?_
    rintro e u3 ⟨rfl, kb⟩
    have HK := hide ((unhide HK).trans (kb.mono (unhide HK).size))
    clear kb a0 a1 b0 b1
    go_wp2
    all_goals
      go_ret
      exact ⟨rfl, unhide HK⟩
  · have hz' : (1048576 : Int) < (s.size : Int) := by omega
    go_enter Tryd.func5, Tryd.ntmps5
    go_wp2
    go_ret
    exact ⟨rfl, Below.refl _ _⟩
end Go.Proofs.YtghommnbnafmkaaDoor
