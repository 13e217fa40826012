/- The order of entries and of rows of them. -/
import Derived.Test.YtdcdpicdpdhfbaaDoorTokD
namespace Go.Proofs.YtdcdpicdpdhfbaaDoor
open Go.RowKit
set_option linter.unusedSimpArgs false

theorem H4.alloc {w0 w : World} {a1 a2 a3 a4 : Addr} {v1 v2 v3 v4 : Value} (o : Obj) (h : H4 w0 a1 a2 a3 a4 v1 v2 v3 v4 w) : H4 w0 a1 a2 a3 a4 v1 v2 v3 v4 (w.alloc o) := H4.call ((Below.refl _ _).alloc (Nat.le_refl _) o) h
theorem two_new (u : World) (x y : Value) (t : TypeId) : (u.alloc (Obj.cells #[x, y] t)).drew.cell? ⟨u.heap.size, 0, none⟩ = some x ∧ (u.alloc (Obj.cells #[x, y] t)).drew.cell? ⟨u.heap.size, 1, none⟩ = some y := by
  constructor
  · show (u.alloc (Obj.cells #[x, y] t)).cell? _ = _
    unfold World.cell?; rw [heap_alloc_new]; rfl
  · show (u.alloc (Obj.cells #[x, y] t)).cell? _ = _
    unfold World.cell?; rw [heap_alloc_new]; rfl
set_option maxHeartbeats 1000000 in
theorem eord_c (p1 p2 q1 q2 : Int) (w : World) : Calls Tryd.prog 80 #[.agg #[.int .i64 p1, .int .i64 p2], .agg #[.int .i64 q1, .int .i64 q2]] w fun e w' => e = .returned (.int .i64 (orI (cmpI p1 q1) (cmpI p2 q2))) ∧ Below w.heap.size w w' := by
  obtain ⟨u, hu⟩ : ∃ u, u = (w.alloc (Obj.cells #[.int .i64 p1, .int .i64 p2] 68)).alloc (Obj.cells #[.int .i64 q1, .int .i64 q2] 68) := ⟨_, rfl⟩
  have hk4 : H4 w ⟨w.heap.size, 0, none⟩ ⟨w.heap.size, 1, none⟩ ⟨w.heap.size + 1, 0, none⟩ ⟨w.heap.size + 1, 1, none⟩ (.int .i64 p1) (.int .i64 p2) (.int .i64 q1) (.int .i64 q2) u := by
    rw [hu]
    exact ⟨by simp [go_sem], by simp [go_sem], by simp [go_sem], by simp [go_sem], ((Below.refl _ _).alloc (Nat.le_refl _) _).alloc (by simp) _⟩
  have HU := hide hu
  clear hu
  go_enter Tryd.func80, Tryd.ntmps80
  go_wp2_with fail
  rw [← unhide HU]
  go_region_held3 (H4 w ⟨w.heap.size, 0, none⟩ ⟨w.heap.size, 1, none⟩ ⟨w.heap.size + 1, 0, none⟩ ⟨w.heap.size + 1, 1, none⟩ (.int .i64 p1) (.int .i64 p2) (.int .i64 q1) (.int .i64 q2))
    (first | assumption | exact H4.drew (by assumption) | exact H4.alloc _ (by assumption) | exact H4.drew (H4.alloc _ (by assumption)) | exact H4.alloc _ (H4.drew (by assumption)))
    (first
      | (go_at_call 89; refine (cmpJ_c _ _ _).mono ?_; rintro e w1 ⟨rfl, rfl⟩)
      | (go_at_call 77; refine (or_c _ _ (cmpI p1 q1) (cmpI p2 q2) _ (two_new _ _ _ _).1 (two_new _ _ _ _).2).mono ?_; rintro e w1 ⟨rfl, rfl⟩))
  rename_i hH
  go_wp2
  go_ret
  exact ⟨rfl, hH.2.2.2.2⟩
end Go.Proofs.YtdcdpicdpdhfbaaDoor
