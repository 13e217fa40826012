/- The law on AlarmText: its walk. -/
import Derived.Test.YtghommnbnafmkaaDoorAlmO
namespace Go.Proofs.YtghommnbnafmkaaDoor
open Go.RowKit
set_option linter.unusedSimpArgs false
set_option linter.unusedVariables false

theorem toAlarm_c (s : Int) (z : Int) (w : World) : Calls Tryd.prog 13 #[.agg #[.int .i64 s, .int .i64 z]] w fun e w' => e = .returned (.agg #[.int .i64 s, .int .i64 z]) ∧ Below w.heap.size w w' := by
  go_enter Tryd.func13, Tryd.ntmps13
  go_wp2
  exact bodyPost_ret (v := .agg #[.int .i64 s, .int .i64 z]) (by simp [results, Tryd.results13, go_sem]) rfl ⟨rfl, ((Below.refl _ _).alloc (Nat.le_refl _) _).alloc (by simp) _ |>.alloc (by simp; omega) _⟩
set_option maxRecDepth 20000 in
set_option maxHeartbeats 4000000 in
theorem lawAlarmText (l k : Int) (w : World) (hw : ALW w) (hl : -9223372036854775808 ≤ l ∧ l ≤ 9223372036854775807) (hk : -9223372036854775808 ≤ k ∧ k ≤ 9223372036854775807) : Calls Tryd.prog 4 #[.agg #[.int .i64 l, .int .i64 k]] w fun e w' => e = .returned (.bool true) ∧ Below w.heap.size w w' := by
  have HW := hide hw
  have HL := hide hl
  have HK := hide hk
  have HB := hide (sAlarm_box w l k 31)
  clear hw hl hk
  go_enter Tryd.func4, Tryd.ntmps4
  go_upto_region 1 with fail
  generalize w.alloc (Obj.cells #[.int .i64 l, .int .i64 k] 31) = u at HB ⊢
  have p0 := (unhide HB).1
  have p1 := (unhide HB).2.1
  go_wp2_with fail
  refine (toAlarm_c l k _).mono ?_
  rintro e u1 ⟨rfl, kb⟩
  have HB := hide (H2.call kb (unhide HB))
  clear kb p0 p1
  go_wp2_with fail
  refine (sAlarmText_c l k (unhide HL) (unhide HK) _).mono ?_
  rintro e u2 ⟨rfl, kb⟩
  have HB := hide (H2.call kb (unhide HB))
  clear kb
  have p0 := (unhide HB).1
  have p1 := (unhide HB).2.1
  go_wp2_with fail
  refine (toAlarm_c l k _).mono ?_
  rintro e u3 ⟨rfl, kb⟩
  have HB := hide (H2.call kb (unhide HB))
  clear kb p0 p1
  go_wp2_with fail
  refine (iAlarmText_c l k (unhide HL) (unhide HK) _ ((unhide HW).call (unhide HB).2.2)).mono ?_
  rintro e u4 ⟨rfl, kb⟩
  have HB := hide (H2.call kb (unhide HB))
  clear kb
  generalize almT l k = V
  go_wp2
  go_ret
  exact ⟨rfl, (unhide HB).2.2⟩
end Go.Proofs.YtghommnbnafmkaaDoor
