/- Blocks and cells; whether an interval has 0, as an alarm (where the corners' texts are not there). -/
import Derived.Test.YtojakiiohbmlaaaIvC
import Derived.Laws.OwnMore
import Derived.Maps.AppendAt
import Derived.Deep.LoopGhost
import Derived.WalkSpells
namespace Go.Proofs.Ytojakiiohbmlaaa
open Go.RowKit Go.Iv
set_option linter.unusedSimpArgs false

theorem cell_of_block {w : World} {b o : Nat} {cs : Array Value} {t : TypeId} {fz : Nat × Nat} (hb : w.heap[b]? = some (.cells cs t fz)) : w.cell? ⟨b, o, none⟩ = cs[o]? := by
  unfold World.cell?; rw [hb]; rfl
def dvA (l h : Int) : Int := if hasB l h 0 then 1 else 0
theorem divAlarm_c (l h : Int) (w : World) : Calls Try.prog 52 #[.agg #[.int .i64 l, .int .i64 h]] w fun e w' => e = .returned (.int .i64 (dvA l h)) ∧ Below w.heap.size w w' := by
  by_cases hh : hasB l h 0 = true
  · rw [show dvA l h = 1 from if_pos hh]
    go_enter Try.func52, Try.ntmps52
    go_wp2_with fail
    refine (IvHas_c _ _ _ _).mono ?_
    rintro e w1 ⟨rfl, hb1⟩
    have K1 : Hid (Below w.heap.size w w1) := ((Below.refl _ _).alloc (Nat.le_refl _) _).trans (hb1.mono (by simp))
    clear hb1
    go_wp2
    go_ret
    exact ⟨rfl, K1.out⟩
  · rw [show dvA l h = 0 from if_neg hh]
    have hh' : hasB l h 0 = false := by simpa using hh
    clear hh
    go_enter Try.func52, Try.ntmps52
    go_wp2_with fail
    refine (IvHas_c _ _ _ _).mono ?_
    rintro e w1 ⟨rfl, hb1⟩
    have K1 : Hid (Below w.heap.size w w1) := ((Below.refl _ _).alloc (Nat.le_refl _) _).trans (hb1.mono (by simp))
    clear hb1
    go_wp2
    go_ret
    exact ⟨rfl, K1.out⟩
end Go.Proofs.Ytojakiiohbmlaaa
