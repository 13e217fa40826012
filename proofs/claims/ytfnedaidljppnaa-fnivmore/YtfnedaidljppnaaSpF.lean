/- The specification's parts of an interval beside 0. -/
import Derived.Test.YtfnedaidljppnaaSpH
import Derived.Test.YtfnedaidljppnaaIvC
namespace Go.Proofs.Ytfnedaidljppnaa
open Go.RowKit Go.Iv
set_option linter.unusedSimpArgs false

theorem ivInfo : (Try.prog.info? 25).map (fun i => (i.zero, i.size, i.bytes)) = some (some (.agg #[.int .i64 0, .int .i64 0]), 2, 16) := by kernel_rfl
def cellsP (ps : List (Int × Int)) : List Value := ps.flatMap fun p => [.int .i64 p.1, .int .i64 p.2]
theorem cellsP_app (a b : List (Int × Int)) : cellsP (a ++ b) = cellsP a ++ cellsP b := by simp [cellsP]
/-- What is below 0, and what is above. -/
def partsL (bl bh : Int) : List (Int × Int) := (if bl < 0 then [(bl, mn bh (-1))] else []) ++ (if 0 < bh then [(mx bl 1, bh)] else [])
def PR (w : World) (bl bh : Int) (l : Value) (ps : List (Int × Int)) (wr : World) : Prop :=
  wr.ownsRow (w.heap.size + 1) 25 2 l ps.length (cellsP ps) ∧ l ≠ .slice none 0 0 ∧ wr.heap[w.heap.size]? = some (.cells #[.int .i64 bl, .int .i64 bh] 25 (0, 0)) ∧ Below w.heap.size w wr ∧ w.heap.size + 1 ≤ wr.heap.size
theorem PR.step {w wr w1 : World} {bl bh x y : Int} {l v' : Value} {ps : List (Int × Int)} {o : Obj} (h : PR w bl bh l ps wr) (hown : w1.ownsRow (w.heap.size + 1) 25 2 v' (ps.length + 1) (cellsP ps ++ [.int .i64 x, .int .i64 y]))
    (hg : (wr.alloc o).grownBy w1 l.ownBlock) (hn : ¬ v' = .slice none 0 0) : PR w bl bh v' (ps ++ [(x, y)]) w1 := by
  obtain ⟨ho, h2, hA, hb, hz⟩ := h
  have hs2 := hg.size
  have hsz : (wr.alloc o).heap.size = wr.heap.size + 1 := by simp
  refine ⟨by rw [cellsP_app]; simpa [cellsP] using hown, hn, ?_, ?_, by omega⟩
  · rw [hg.block w.heap.size (by omega) (fun e => by have := (ho.lt w.heap.size e.symm).1; omega), Below.heap_alloc wr o _ (by omega)]; exact hA
  · exact (hb.alloc (by omega) o).grown hg (by omega) (fun j hj => by have := (ho.lt j hj).1; omega)
theorem PR.start (w : World) (bl bh : Int) : PR w bl bh (.slice (some ⟨w.heap.size + 1, 0, none⟩) 0 0) [] ((w.alloc (Obj.cells #[.int .i64 bl, .int .i64 bh] 25)).alloc (Obj.cells #[] 25)) := by
  have o1 := World.ownsRow_lit (base := w.heap.size + 1) (size := 2) (e := 25) (w.alloc (Obj.cells #[.int .i64 bl, .int .i64 bh] 25)) #[] 0 (by simp) (by decide) (by simp)
  refine ⟨by simpa [cellsP] using o1, by simp, ?_, ((Below.refl _ _).alloc (Nat.le_refl _) _).alloc (by simp) _, by simp⟩
  rw [Below.heap_alloc _ _ _ (by simp)]; exact heap_alloc_new _ _
theorem PR.cells {w wr : World} {bl bh : Int} {l : Value} {ps : List (Int × Int)} (h : PR w bl bh l ps wr) : ∃ g cap, l = .slice (some ⟨g, 0, none⟩) ps.length cap ∧ g < wr.heap.size ∧ (∀ i, i < ps.length → wr.cell? ⟨g, i * 2, none⟩ = some (.int .i64 ps[i]!.1) ∧ wr.cell? ⟨g, i * 2 + 1, none⟩ = some (.int .i64 ps[i]!.2)) := by
  obtain ⟨⟨hlen, ho⟩, h2, _⟩ := h
  rcases ho with ⟨rfl, _⟩ | ⟨g, cap, cur, rfl, _, hg, _, _, hcs, htake⟩
  · exact absurd rfl h2
  · have hP : ∀ (qs : List (Int × Int)) i, i < qs.length → (cellsP qs)[i * 2]? = some (.int .i64 qs[i]!.1) ∧ (cellsP qs)[i * 2 + 1]? = some (.int .i64 qs[i]!.2) := by
      intro qs
      induction qs with
      | nil => intro i hi; simp at hi
      | cons q qs ih =>
        intro i hi
        cases i with
        | zero => simp [cellsP]
        | succ i =>
          have := ih i (by simpa using hi)
          have e : (i + 1) * 2 = i * 2 + 2 := by omega
          simp only [cellsP, List.flatMap_cons, e] at this ⊢
          simpa using this
    refine ⟨g, cap, rfl, (Array.getElem?_eq_some_iff.1 hg).1, fun i hi => ?_⟩
    have key : ∀ j u, (cellsP ps)[j]? = some u → wr.cell? ⟨g, j, none⟩ = some u := by
      intro j u hj
      rw [cell_of_block hg]
      rw [← htake] at hj
      rw [List.getElem?_take] at hj
      split at hj
      · simpa using hj
      · cases hj
    exact ⟨key _ _ (hP ps i hi).1, key _ _ (hP ps i hi).2⟩
/-- The walk behind an append of one interval. -/
theorem one_cells (x y : Int) : (∀ u ∈ [Value.int .i64 x, Value.int .i64 y], u.oneCell' = true) := by
  intro u hu
  simp at hu
  rcases hu with rfl | rfl <;> rfl

set_option maxHeartbeats 1000000 in
theorem parts11 (bl bh : Int) (w : World) (h1 : bl < 0) (h2 : 0 < bh) : Calls Try.prog 52 #[.agg #[.int .i64 bl, .int .i64 bh]] w fun e w' => ∃ v, e = .returned v ∧ PR w bl bh v (partsL bl bh) w' := by
  have q1 := hmn bh (-1)
  have q2 := hmx bl 1
  have hp := hide (show [] ++ [(bl, mn bh (-1))] ++ [(mx bl 1, bh)] = partsL bl bh by unfold partsL; rw [if_pos h1, if_pos h2] <;> first | done | rfl)
  rw [← unhide hp]
  have d1 : decide (bl < 0) = true := by simpa using h1
  have d2 : decide (0 < bh) = true := by simpa using h2
  obtain ⟨inf, hi, hz0, hz1, hz2⟩ := info_parts ivInfo
  have HR := hide (PR.start w bl bh)
  clear h1 h2 hp
  go_enter Try.func52, Try.ntmps52
  go_wp2_with (at_builtin; refine wpList_append_own _ rfl _ _ 64 rfl (w.heap.size + 1) 25 inf (.agg #[.int .i64 0, .int .i64 0]) 2 16 Try.underlying64 hi hz0 hz1 hz2 rfl (by decide) _ _ _ rfl ((unhide HR).1.alloc _) ⟨_, 0, none⟩ 1 1 [.int .i64 (bl), .int .i64 (mn bh (-1))] rfl rfl ?c1 (one_cells _ _) ?c3 ?c4 ?c5 ?_)
  case c1 =>
    intro j u hj
    rcases j with _ | _ | j
    · simp at hj; subst hj; simp [Addr.add, go_sem]
    · simp at hj; subst hj; simp [Addr.add, go_sem]
    · simp at hj
  case c3 => unfold maxLen; simp
  case c4 => simp
  case c5 => have := (unhide HR).2.2.2.2; simp
  intro v0 w0 hown0 hgrow0 hnil0
  have P0 := (unhide HR).step hown0 hgrow0 hnil0
  clear hown0 hgrow0 hnil0 HR
  have ca0 : w0.cell? ⟨w.heap.size, 0, none⟩ = some (.int .i64 bl) := cell_of_block P0.2.2.1
  have cb0 : w0.cell? ⟨w.heap.size, 1, none⟩ = some (.int .i64 bh) := cell_of_block P0.2.2.1
  have HP0 := hide P0
  clear P0
  go_wp2_with (at_builtin; refine wpList_append_own _ rfl _ _ 64 rfl (w.heap.size + 1) 25 inf (.agg #[.int .i64 0, .int .i64 0]) 2 16 Try.underlying64 hi hz0 hz1 hz2 rfl (by decide) _ _ _ rfl ((unhide HP0).1.alloc _) ⟨_, 0, none⟩ 1 1 [.int .i64 (mx bl 1), .int .i64 (bh)] rfl rfl ?c1 (one_cells _ _) ?c3 ?c4 ?c5 ?_)
  case c1 =>
    intro j u hj
    rcases j with _ | _ | j
    · simp at hj; subst hj; simp [Addr.add, go_sem]
    · simp at hj; subst hj; simp [Addr.add, go_sem]
    · simp at hj
  case c3 => unfold maxLen; simp
  case c4 => simp
  case c5 => have := (unhide HP0).2.2.2.2; simp at this ⊢; omega
  intro v1 w1 hown1 hgrow1 hnil1
  have P1 := (unhide HP0).step hown1 hgrow1 hnil1
  clear hown1 hgrow1 hnil1 HP0
  have ca1 : w1.cell? ⟨w.heap.size, 0, none⟩ = some (.int .i64 bl) := cell_of_block P1.2.2.1
  have cb1 : w1.cell? ⟨w.heap.size, 1, none⟩ = some (.int .i64 bh) := cell_of_block P1.2.2.1
  have HP1 := hide P1
  clear P1
  go_wp2
  go_ret
  exact ⟨_, rfl, unhide HP1⟩
set_option maxHeartbeats 1000000 in
theorem parts10 (bl bh : Int) (w : World) (h1 : bl < 0) (h2 : ¬ 0 < bh) : Calls Try.prog 52 #[.agg #[.int .i64 bl, .int .i64 bh]] w fun e w' => ∃ v, e = .returned v ∧ PR w bl bh v (partsL bl bh) w' := by
  have q1 := hmn bh (-1)
  have q2 := hmx bl 1
  have hp := hide (show [] ++ [(bl, mn bh (-1))] = partsL bl bh by unfold partsL; rw [if_pos h1, if_neg h2] <;> first | done | rfl)
  rw [← unhide hp]
  have d1 : decide (bl < 0) = true := by simpa using h1
  have d2 : decide (0 < bh) = false := by simpa using h2
  obtain ⟨inf, hi, hz0, hz1, hz2⟩ := info_parts ivInfo
  have HR := hide (PR.start w bl bh)
  clear h1 h2 hp
  go_enter Try.func52, Try.ntmps52
  go_wp2_with (at_builtin; refine wpList_append_own _ rfl _ _ 64 rfl (w.heap.size + 1) 25 inf (.agg #[.int .i64 0, .int .i64 0]) 2 16 Try.underlying64 hi hz0 hz1 hz2 rfl (by decide) _ _ _ rfl ((unhide HR).1.alloc _) ⟨_, 0, none⟩ 1 1 [.int .i64 (bl), .int .i64 (mn bh (-1))] rfl rfl ?c1 (one_cells _ _) ?c3 ?c4 ?c5 ?_)
  case c1 =>
    intro j u hj
    rcases j with _ | _ | j
    · simp at hj; subst hj; simp [Addr.add, go_sem]
    · simp at hj; subst hj; simp [Addr.add, go_sem]
    · simp at hj
  case c3 => unfold maxLen; simp
  case c4 => simp
  case c5 => have := (unhide HR).2.2.2.2; simp
  intro v0 w0 hown0 hgrow0 hnil0
  have P0 := (unhide HR).step hown0 hgrow0 hnil0
  clear hown0 hgrow0 hnil0 HR
  have ca0 : w0.cell? ⟨w.heap.size, 0, none⟩ = some (.int .i64 bl) := cell_of_block P0.2.2.1
  have cb0 : w0.cell? ⟨w.heap.size, 1, none⟩ = some (.int .i64 bh) := cell_of_block P0.2.2.1
  have HP0 := hide P0
  clear P0
  go_wp2
  go_ret
  exact ⟨_, rfl, unhide HP0⟩
set_option maxHeartbeats 1000000 in
theorem parts01 (bl bh : Int) (w : World) (h1 : ¬ bl < 0) (h2 : 0 < bh) : Calls Try.prog 52 #[.agg #[.int .i64 bl, .int .i64 bh]] w fun e w' => ∃ v, e = .returned v ∧ PR w bl bh v (partsL bl bh) w' := by
  have q1 := hmn bh (-1)
  have q2 := hmx bl 1
  have hp := hide (show ([] : List (Int × Int)) ++ [(mx bl 1, bh)] = partsL bl bh by unfold partsL; rw [if_neg h1, if_pos h2] <;> first | done | rfl)
  rw [← unhide hp]
  have d1 : decide (bl < 0) = false := by simpa using h1
  have d2 : decide (0 < bh) = true := by simpa using h2
  obtain ⟨inf, hi, hz0, hz1, hz2⟩ := info_parts ivInfo
  have HR := hide (PR.start w bl bh)
  clear h1 h2 hp
  go_enter Try.func52, Try.ntmps52
  go_wp2_with (at_builtin; refine wpList_append_own _ rfl _ _ 64 rfl (w.heap.size + 1) 25 inf (.agg #[.int .i64 0, .int .i64 0]) 2 16 Try.underlying64 hi hz0 hz1 hz2 rfl (by decide) _ _ _ rfl ((unhide HR).1.alloc _) ⟨_, 0, none⟩ 1 1 [.int .i64 (mx bl 1), .int .i64 (bh)] rfl rfl ?c1 (one_cells _ _) ?c3 ?c4 ?c5 ?_)
  case c1 =>
    intro j u hj
    rcases j with _ | _ | j
    · simp at hj; subst hj; simp [Addr.add, go_sem]
    · simp at hj; subst hj; simp [Addr.add, go_sem]
    · simp at hj
  case c3 => unfold maxLen; simp
  case c4 => simp
  case c5 => have := (unhide HR).2.2.2.2; simp
  intro v0 w0 hown0 hgrow0 hnil0
  have P0 := (unhide HR).step hown0 hgrow0 hnil0
  clear hown0 hgrow0 hnil0 HR
  have ca0 : w0.cell? ⟨w.heap.size, 0, none⟩ = some (.int .i64 bl) := cell_of_block P0.2.2.1
  have cb0 : w0.cell? ⟨w.heap.size, 1, none⟩ = some (.int .i64 bh) := cell_of_block P0.2.2.1
  have HP0 := hide P0
  clear P0
  go_wp2
  go_ret
  exact ⟨_, rfl, unhide HP0⟩
set_option maxHeartbeats 1000000 in
theorem parts00 (bl bh : Int) (w : World) (h1 : ¬ bl < 0) (h2 : ¬ 0 < bh) : Calls Try.prog 52 #[.agg #[.int .i64 bl, .int .i64 bh]] w fun e w' => ∃ v, e = .returned v ∧ PR w bl bh v (partsL bl bh) w' := by
  have q1 := hmn bh (-1)
  have q2 := hmx bl 1
  have hp := hide (show ([] : List (Int × Int)) = partsL bl bh by unfold partsL; rw [if_neg h1, if_neg h2] <;> first | done | rfl)
  rw [← unhide hp]
  have d1 : decide (bl < 0) = false := by simpa using h1
  have d2 : decide (0 < bh) = false := by simpa using h2
  obtain ⟨inf, hi, hz0, hz1, hz2⟩ := info_parts ivInfo
  have HR := hide (PR.start w bl bh)
  clear h1 h2 hp
  go_enter Try.func52, Try.ntmps52
  go_wp2
  go_ret
  exact ⟨_, rfl, unhide HR⟩
theorem l2Parts_c (bl bh : Int) (w : World) : Calls Try.prog 52 #[.agg #[.int .i64 bl, .int .i64 bh]] w fun e w' => ∃ v, e = .returned v ∧ PR w bl bh v (partsL bl bh) w' := by
  by_cases h1 : bl < 0 <;> by_cases h2 : 0 < bh
  · exact parts11 bl bh w h1 h2
  · exact parts10 bl bh w h1 h2
  · exact parts01 bl bh w h1 h2
  · exact parts00 bl bh w h1 h2
end Go.Proofs.Ytfnedaidljppnaa
