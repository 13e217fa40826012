/- Rows of bounds that came in; the walks of the laws of tables. -/
import Derived.Test.YthldhjifnpfmiaaGreatDoorTabE
import Derived.Test.YthldhjifnpfmiaaGreatDoorLawE
import Derived.Deep.DeepCutAuto
namespace Go.Proofs.YthldhjifnpfmiaaGreatDoor
open Go.ChangeShapes Go.WideShapes Go.ChangeAt Go.RowKit
set_option linter.unusedSimpArgs false
set_option linter.unusedVariables false

theorem three_list {α : Type} {l : List α} (h : l.length = 3) : ∃ a b c, l = [a, b, c] := by
  match l, h with
  | [a, b, c], _ => exact ⟨a, b, c, rfl⟩
theorem openE3 {H : Type} {enc : TypeId × Value → H} {W : World} {fuel : Nat} {v : Value} {y : DataW H × List MemPlace} (h : DataW.trod enc Tryz.prog W 0 (fun _ => true) true fuel 56 [v] = some y) : ∃ a cap es, v = .slice a (List.length es) cap ∧ EnvsA W a es := by
  rcases Deep.open_slice Tryz.underlying56 h with ⟨hcs, _⟩ | ⟨a, len, cap, m, n, D, Pl, hcs, hb, hl, hm, hmm, _, hx⟩
  · simp at hcs
    subst hcs
    exact ⟨none, 0, [], rfl, by simp, .inl rfl⟩
  · simp at hcs hmm
    subst hcs hmm
    have ml : maxLen ≤ 9223372036854775807 := by decide
    have ce : Tryz.prog.cellsOf 122 = 3 := by kernel_rfl
    have cb : Tryz.prog.cellsOf 4 = 1 := by kernel_rfl
    have cv : Tryz.prog.cellsOf 120 = 1 := by kernel_rfl
    have each : ∀ i, i < len → ∃ q : ER × (Option Addr × Nat) × (Option Addr × Nat), W.cell? (a.add (i * 3)) = some (.bool q.1.1) ∧ W.cell? (a.add (i * 3 + 1)) = some (.slice q.2.1.1 q.1.2.1.length q.2.1.2) ∧ W.cell? (a.add (i * 3 + 2)) = some (.slice q.2.2.1 q.1.2.2.length q.2.2.2) ∧ IvsA W q.2.1.1 q.1.2.1 ∧ IvsA W q.2.2.1 q.1.2.2 := fun i hi => by
      obtain ⟨cs', h1, h2⟩ := hx i (by omega)
      rw [ce] at h1
      obtain ⟨_, hlen, hcell⟩ := World.cells?_some h1
      obtain ⟨xs, k, hk, hxy, _, hxl, hf⟩ := DataW.trod_struct Tryz.underlying122 h2
      obtain ⟨y0, y1, y2, rfl⟩ := three_list (by simpa using hxl)
      obtain ⟨v0, v1, v2, rfl⟩ := three_list hlen
      · have g0 : DataW.trod enc Tryz.prog W 0 (fun _ => true) true k 4 [v0] = some y0 := by
          have g : DataW.trod enc Tryz.prog W 0 (fun _ => true) true k 4 (([v0, v1, v2].drop 0).take (Tryz.prog.cellsOf 4)) = some y0 := hf 0 _ rfl
          rw [cb] at g
          exact g
        have g1 : DataW.trod enc Tryz.prog W 0 (fun _ => true) true k 120 [v1] = some y1 := by
          have g : DataW.trod enc Tryz.prog W 0 (fun _ => true) true k 120 (([v0, v1, v2].drop 1).take (Tryz.prog.cellsOf 120)) = some y1 := hf 1 _ rfl
          rw [cv] at g
          exact g
        have g2 : DataW.trod enc Tryz.prog W 0 (fun _ => true) true k 120 [v2] = some y2 := by
          have g : DataW.trod enc Tryz.prog W 0 (fun _ => true) true k 120 (([v0, v1, v2].drop 2).take (Tryz.prog.cellsOf 120)) = some y2 := hf 2 _ rfl
          rw [cv] at g
          exact g
        have e0 := hcell 0 (by omega)
        have e1 := hcell 1 (by omega)
        have e2 := hcell 2 (by omega)
        rw [Deep.add_add] at e0 e1 e2
        obtain ⟨li, rfl⟩ := openT g0
        obtain ⟨xa, xc, x1, rfl, f1⟩ := openV g1
        obtain ⟨ya, yc, x2, rfl, f2⟩ := openV g2
        exact ⟨((li, x1, x2), (xa, xc), (ya, yc)), by simpa using e0, by simpa using e1, by simpa using e2, f1, f2⟩
    obtain ⟨Q, hQ⟩ := Deep.choose_lt each
    refine ⟨some a, m, (List.range len).map fun i => (Q i).1, by simp, by simp; omega, ?_⟩
    by_cases h0 : len = 0
    · exact .inl (by simp [h0])
    · have c0 := (hQ 0 (by omega)).1
      have ea := addr_none (by simpa using c0)
      refine .inr ⟨a.block, a.off, by rw [← ea], fun i hi => ?_⟩
      simp at hi
      obtain ⟨c1, c2, c3, f1, f2⟩ := hQ i (by omega)
      rw [ea, Addr.add_lit] at c1 c2 c3
      exact ⟨(Q i).2.1.1, (Q i).2.1.2, (Q i).2.2.1, (Q i).2.2.2, by simpa using c1, by simpa [Nat.add_assoc] using c2, by simpa [Nat.add_assoc] using c3, by simpa using f1, by simpa using f2⟩
end Go.Proofs.YthldhjifnpfmiaaGreatDoor
