/- The walk of the law on IvCompare. -/
import Derived.Test.YtlgjbfkhajphdaaDoorDoorO
namespace Go.Proofs.YtlgjbfkhajphdaaDoor
open Go.RowKit Go.Iv
set_option linter.unusedSimpArgs false
set_option linter.unusedVariables false

theorem S2.bel {w0 w : World} {B : Nat} {x0 y0 x1 y1 : Int} (h : S2 w0 w0.heap.size B x0 y0 x1 y1 w) : Below w0.heap.size w0 w := h.2.2.2.2.1
set_option maxRecDepth 100000 in
set_option maxHeartbeats 2000000 in
theorem lawIvCompare (a0 l1 g1 l2 g2 : Int) (w : World) (ho' : OPP w) (w0 : In a0) (i1 : In l1) (j1 : In g1) (i2 : In l2) (j2 : In g2) :
    Calls Tryd.prog 4 #[.int .i64 a0, .agg #[.int .i64 l1, .int .i64 g1], .agg #[.int .i64 l2, .int .i64 g2]] w fun e w' => e = .returned (.bool true) ∧ Below w.heap.size w w' := by
  have ho := hide ho'
  clear ho'
  have hs0 : S2 w w.heap.size w.heap.size l1 g1 l2 g2 ((w.alloc (Obj.cells #[.int .i64 l1, .int .i64 g1] 31)).alloc (Obj.cells #[.int .i64 l2, .int .i64 g2] 31)) := by
    refine ⟨by simp, by simp, by simp, by simp, ((Below.refl _ _).alloc (Nat.le_refl _) _).alloc (by simp) _, by simp; omega, by simp⟩
  go_enter Tryd.func4, Tryd.ntmps4
  go_wp2_with fail
  generalize (w.alloc (Obj.cells #[.int .i64 l1, .int .i64 g1] 31)).alloc (Obj.cells #[.int .i64 l2, .int .i64 g2] 31) = W at hs0 ⊢
  have hz0 := hs0.2.2.2.2.2.2
  go_cut [7] (fun p wc => Res2 w w.heap.size w.heap.size l1 g1 l2 g2 p (cmpLo a0 l1 g1 l2 g2) (cmpHi a0 l1 g1 l2 g2) wc)
  case first =>
    go_region_held3 (S2 w w.heap.size w.heap.size l1 g1 l2 g2)
      (first | exact S2.drew (by assumption) | exact S2.call hb (by assumption) | exact S2.alloc (by assumption) _ | exact S2.alloc (S2.alloc (S2.alloc (by assumption) _) _) _ | exact S2.set (S2.set (by assumption) (by omega) (by omega) _) (by omega) (by omega) _)
      (first
        | (go_at_call 10; refine (toInterval_c _ _ _).mono ?_; rintro e w1 ⟨rfl, o1, o2, o3, rfl⟩)
        | (go_at_call 8; refine (sIvCompare_c _ _ _ _ _ _).mono ?_; rintro e w1 ⟨rfl, hb⟩; have hk := S2.call (x0 := l1) (y0 := g1) (x1 := l2) (y1 := g2) (w0 := w) (M := w.heap.size) (B := w.heap.size) hb (by assumption); obtain ⟨hc, hf⟩ := bcell hb))
    all_goals (go_wp2_with fail; go_meet)
    all_goals first
      | exact Res2.new hk _ _ _
      | exact Res2.set (v0 := .int .i64 0) (v1 := .int .i64 0) hk (by omega) (by omega) ((hc _ _ (by simp <;> omega)).trans (by simp [go_sem])) ((hc _ _ (by simp <;> omega)).trans (by simp [go_sem])) _ _
  case rest =>
  clear hs0 hz0
  obtain ⟨b, rfl, cb, hb2, hbs, hs1⟩ := hcut
  have K1 : Hid (Below w.heap.size w wc) := hs1.2.2.2.2.1
  have hz1 := hs1.2.2.2.2.2.2
  have hs2 : S2 wc wc.heap.size w.heap.size l1 g1 l2 g2 wc := ⟨hs1.1, hs1.2.1, hs1.2.2.1, hs1.2.2.2.1, Below.refl _ _, Nat.le_refl _, hz1⟩
  clear hs1
  have CB := hide cb
  clear cb
  obtain ⟨wd, rfl⟩ : ∃ wd : World, wd = wc := ⟨_, rfl⟩
  have hod : Hid (OPP wd) := ho.out.call K1.out
  go_wp2_with fail
  go_cut [8] (fun p wc => Res2 wd wd.heap.size w.heap.size l1 g1 l2 g2 p (cmpLo a0 l1 g1 l2 g2) (cmpHi a0 l1 g1 l2 g2) wc)
  case first =>
    go_region_held3 (S2 wd wd.heap.size w.heap.size l1 g1 l2 g2)
      (first | exact S2.drew (by assumption) | exact S2.call hb (by assumption) | exact S2.alloc (by assumption) _ | exact S2.alloc (S2.alloc (S2.alloc (by assumption) _) _) _ | exact S2.set (S2.set (by assumption) (by omega) (by omega) _) (by omega) (by omega) _)
      (first
        | (go_at_call 10; refine (toInterval_c _ _ _).mono ?_; rintro e w1 ⟨rfl, o1, o2, o3, rfl⟩)
        | (go_at_call 7; refine (IvCompare_c _ _ _ _ _ i1 j1 i2 j2 _ (by exact OPP.call (unhide hod) (S2.bel (by assumption)))).mono ?_; rintro e w1 ⟨rfl, hb⟩; have hk := S2.call (x0 := l1) (y0 := g1) (x1 := l2) (y1 := g2) (w0 := wd) (M := wd.heap.size) (B := w.heap.size) hb (by assumption); obtain ⟨hc, hf⟩ := bcell hb))
    all_goals (go_wp2_with fail; go_meet)
    all_goals first
      | exact Res2.new hk _ _ _
      | exact Res2.set (v0 := .int .i64 0) (v1 := .int .i64 0) hk (by omega) (by omega) ((hc _ _ (by simp <;> omega)).trans (by simp [go_sem])) ((hc _ _ (by simp <;> omega)).trans (by simp [go_sem])) _ _
  case rest =>
  obtain ⟨b2, rfl, cd, _, _, hs3⟩ := hcut
  have kb := hs3.2.2.2.2.1
  obtain ⟨d0, d1⟩ := cd
  have e0 : wc.cell? ⟨b, 0, none⟩ = some (.int .i64 (cmpLo a0 l1 g1 l2 g2)) := (kb.cell (by exact hbs)).trans (unhide CB).1
  have e1 : wc.cell? ⟨b, 1, none⟩ = some (.int .i64 (cmpHi a0 l1 g1 l2 g2)) := (kb.cell (by exact hbs)).trans (unhide CB).2
  have K2 : Hid (Below w.heap.size w wc) := K1.out.trans (kb.mono K1.out.size)
  clear kb hs3 CB
  go_wp2_with fail
  refine (eqInterval_c _ _ _).mono ?_
  rintro e w4 ⟨rfl, hb4⟩
  have K4 : Hid (Below w.heap.size w w4) := K2.out.trans (hb4.mono K2.out.size)
  clear hb4
  go_wp2
  go_ret
  exact ⟨rfl, K4.out⟩
end Go.Proofs.YtlgjbfkhajphdaaDoor
