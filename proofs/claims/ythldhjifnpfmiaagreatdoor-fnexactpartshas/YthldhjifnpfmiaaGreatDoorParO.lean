/- (Openings.) Rows of bounds that came in; the walks of the laws of tables. -/
import Derived.Test.YthldhjifnpfmiaaGreatDoorTabO
import Derived.Test.YthldhjifnpfmiaaGreatDoorParF
import Derived.Test.YthldhjifnpfmiaaGreatDoorParG
namespace Go.Proofs.YthldhjifnpfmiaaGreatDoor
open Go.ChangeShapes Go.WideShapes Go.ChangeAt Go.RowKit
set_option linter.unusedSimpArgs false
set_option linter.unusedVariables false

theorem openQ {H : Type} {enc : TypeId × Value → H} {W : World} {fuel : Nat} {v : Value} {y : DataW H × List MemPlace} (h : DataW.trod enc Tryz.prog W 0 (fun _ => true) true fuel 27 [v] = some y) : ∃ a cap xs, v = .slice a (List.length xs) cap ∧ IvsA W a xs := by
  rcases Deep.open_slice_pairs Tryz.underlying27 Tryz.underlying80 (by kernel_rfl) rfl rfl (by kernel_rfl) (by kernel_rfl) h with ⟨hcs, _⟩ | ⟨a, len, cap, m, n, V0, V1, D0, D1, P0, P1, hcs, _, hl, hm, hmm, _, hcell⟩
  · simp at hcs
    subst hcs
    exact ⟨none, 0, [], rfl, by simp, .inl rfl⟩
  · simp at hcs hmm
    subst hcs hmm
    have ml : maxLen ≤ 9223372036854775807 := by decide
    have each : ∀ i, i < len → ∃ q : Int × Int, V0 i = .int .i64 q.1 ∧ V1 i = .int .i64 q.2 := fun i hi => by
      obtain ⟨_, _, h0, h1⟩ := hcell i (by omega)
      obtain ⟨s, e1, _⟩ := DataW.trod_int Tryz.underlying2 h0
      obtain ⟨k, e2, _⟩ := DataW.trod_int Tryz.underlying2 h1
      exact ⟨(s, k), by simpa using e1, by simpa using e2⟩
    obtain ⟨Q, hQ⟩ := Deep.choose_lt each
    refine ⟨some a, m, (List.range len).map Q, by simp, by simp; omega, ?_⟩
    by_cases h0 : len = 0
    · exact .inl (by simp [h0])
    · have c0 := (hcell 0 (by omega)).1
      have ea := addr_none c0
      refine .inr ⟨a.block, a.off, by rw [← ea], fun i hi => ?_⟩
      simp at hi
      obtain ⟨c1, c2, _, _⟩ := hcell i (by omega)
      rw [ea, Addr.add_lit, (hQ i (by omega)).1] at c1
      rw [ea, Addr.add_lit, (hQ i (by omega)).2] at c2
      exact ⟨by simpa using c1, by simpa [Nat.add_assoc] using c2⟩
theorem two_list {α : Type} {l : List α} (h : l.length = 2) : ∃ a b, l = [a, b] := by
  match l, h with
  | [a, b], _ => exact ⟨a, b, rfl⟩
theorem openP3 {H : Type} {enc : TypeId × Value → H} {W : World} {fuel : Nat} {v : Value} {y : DataW H × List MemPlace} (h : DataW.trod enc Tryz.prog W 0 (fun _ => true) true fuel 26 [v] = some y) : ∃ a cap es, v = .slice a (List.length es) cap ∧ PartsA W a es := by
  rcases Deep.open_slice Tryz.underlying26 h with ⟨hcs, _⟩ | ⟨a, len, cap, m, n, D, Pl, hcs, hb, hl, hm, hmm, _, hx⟩
  · simp at hcs
    subst hcs
    exact ⟨none, 0, [], rfl, by simp, .inl rfl⟩
  · simp at hcs hmm
    subst hcs hmm
    have ml : maxLen ≤ 9223372036854775807 := by decide
    have ce : Tryz.prog.cellsOf 58 = 2 := by kernel_rfl
    have cb : Tryz.prog.cellsOf 27 = 1 := by kernel_rfl
    have cv : Tryz.prog.cellsOf 56 = 1 := by kernel_rfl
    have each : ∀ i, i < len → ∃ q : PR × (Option Addr × Nat) × (Option Addr × Nat), W.cell? (a.add (i * 2)) = some (.slice q.2.1.1 q.1.1.length q.2.1.2) ∧ W.cell? (a.add (i * 2 + 1)) = some (.slice q.2.2.1 q.1.2.length q.2.2.2) ∧ IvsA W q.2.1.1 q.1.1 ∧ EnvsA W q.2.2.1 q.1.2 := fun i hi => by
      obtain ⟨cs', h1, h2⟩ := hx i (by omega)
      rw [ce] at h1
      obtain ⟨_, hlen, hcell⟩ := World.cells?_some h1
      obtain ⟨xs, k, hk, hxy, _, hxl, hf⟩ := DataW.trod_struct Tryz.underlying58 h2
      obtain ⟨y0, y1, rfl⟩ := two_list (by simpa using hxl)
      obtain ⟨v0, v1, rfl⟩ := two_list hlen
      · have g0 : DataW.trod enc Tryz.prog W 0 (fun _ => true) true k 27 [v0] = some y0 := by
          have g : DataW.trod enc Tryz.prog W 0 (fun _ => true) true k 27 (([v0, v1].drop 0).take (Tryz.prog.cellsOf 27)) = some y0 := hf 0 _ rfl
          rw [cb] at g
          exact g
        have g1 : DataW.trod enc Tryz.prog W 0 (fun _ => true) true k 56 [v1] = some y1 := by
          have g : DataW.trod enc Tryz.prog W 0 (fun _ => true) true k 56 (([v0, v1].drop 1).take (Tryz.prog.cellsOf 56)) = some y1 := hf 1 _ rfl
          rw [cv] at g
          exact g
        have e0 := hcell 0 (by omega)
        have e1 := hcell 1 (by omega)
        rw [Deep.add_add] at e0 e1
        obtain ⟨xa, xc, x1, rfl, f1⟩ := openQ g0
        obtain ⟨ya, yc, x2, rfl, f2⟩ := openE3 g1
        exact ⟨((x1, x2), (xa, xc), (ya, yc)), by simpa using e0, by simpa using e1, f1, f2⟩
    obtain ⟨Q, hQ⟩ := Deep.choose_lt each
    refine ⟨some a, m, (List.range len).map fun i => (Q i).1, by simp, by simp; omega, ?_⟩
    by_cases h0 : len = 0
    · exact .inl (by simp [h0])
    · have c0 := (hQ 0 (by omega)).1
      have ea := addr_none (by simpa using c0)
      refine .inr ⟨a.block, a.off, by rw [← ea], fun i hi => ?_⟩
      simp at hi
      obtain ⟨c1, c2, f1, f2⟩ := hQ i (by omega)
      rw [ea, Addr.add_lit] at c1 c2
      exact ⟨(Q i).2.1.1, (Q i).2.1.2, (Q i).2.2.1, (Q i).2.2.2, by simpa using c1, by simpa [Nat.add_assoc] using c2, by simpa using f1, by simpa using f2⟩
end Go.Proofs.YthldhjifnpfmiaaGreatDoor
