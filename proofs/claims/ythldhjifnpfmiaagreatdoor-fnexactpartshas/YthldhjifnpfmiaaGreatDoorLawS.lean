/- The law of StoreOk: its walk; rows of numbers and of truths that came in. -/
import Derived.Test.YthldhjifnpfmiaaGreatDoorStZ
import Derived.Test.YthldhjifnpfmiaaGreatDoorLawE
namespace Go.Proofs.YthldhjifnpfmiaaGreatDoor
open Go.ChangeShapes Go.WideShapes Go.ChangeAt Go.RowKit
set_option linter.unusedSimpArgs false

/-- A row of numbers of any length that a machine has. -/
def IntsA (w : World) (a : Option Addr) (xs : List Int) : Prop := xs.length ≤ 9223372036854775807 ∧ (xs.length = 0 ∨ ∃ cb co, a = some ⟨cb, co, none⟩ ∧ ∀ i, (h : i < xs.length) → w.cell? ⟨cb, co + i, none⟩ = some (.int .i64 xs[i]))
theorem Ints.ofA {w : World} {a : Option Addr} {xs : List Int} (h : IntsA w a xs) (hl : (xs.length : Int) ≤ 1048576) : Ints w a xs := ⟨by omega, h.2⟩
theorem openI {H : Type} {enc : TypeId × Value → H} {W : World} {fuel : Nat} {v : Value} {y : DataW H × List MemPlace} (h : DataW.trod enc Tryz.prog W 0 (fun _ => true) true fuel 28 [v] = some y) : ∃ a cap xs, v = .slice a (List.length xs) cap ∧ IntsA W a xs := by
  rcases Deep.open_slice1 Tryz.underlying28 (by kernel_rfl) h with ⟨hcs, _⟩ | ⟨a, len, cap, m, n, V, D, Pl, hcs, _, hl, hm, hmm, _, hx⟩
  · simp at hcs
    subst hcs
    exact ⟨none, 0, [], rfl, by simp, .inl rfl⟩
  · simp at hcs hmm
    subst hcs hmm
    have ml : maxLen ≤ 9223372036854775807 := by decide
    have each : ∀ i, i < len → ∃ q : Int, V i = .int .i64 q := fun i hi => by
      have h1 := (hx i (by omega)).2
      obtain ⟨k, e2, _⟩ := DataW.trod_int Tryz.underlying2 h1
      exact ⟨k, by simpa using e2⟩
    obtain ⟨Q, hQ⟩ := Deep.choose_lt each
    refine ⟨some a, m, (List.range len).map Q, by simp, by simp; omega, ?_⟩
    by_cases h0 : len = 0
    · exact .inl (by simp [h0])
    · have c0 := (hx 0 (by omega)).1
      have ea := addr_none c0
      refine .inr ⟨a.block, a.off, by rw [← ea], fun i hi => ?_⟩
      simp at hi
      have c := (hx i (by omega)).1
      rw [ea, Addr.add_lit, hQ i (by omega)] at c
      simpa using c
/-- A row of truths of any length that a machine has. -/
def BoolsA (w : World) (a : Option Addr) (xs : List Bool) : Prop := xs.length ≤ 9223372036854775807 ∧ (xs.length = 0 ∨ ∃ cb co, a = some ⟨cb, co, none⟩ ∧ ∀ i, (h : i < xs.length) → w.cell? ⟨cb, co + i, none⟩ = some (.bool xs[i]))
theorem Bools.ofA {w : World} {a : Option Addr} {xs : List Bool} (h : BoolsA w a xs) (hl : (xs.length : Int) ≤ 1048576) : Bools w a xs := ⟨by omega, h.2⟩
theorem openB {H : Type} {enc : TypeId × Value → H} {W : World} {fuel : Nat} {v : Value} {y : DataW H × List MemPlace} (h : DataW.trod enc Tryz.prog W 0 (fun _ => true) true fuel 29 [v] = some y) : ∃ a cap xs, v = .slice a (List.length xs) cap ∧ BoolsA W a xs := by
  rcases Deep.open_slice1 Tryz.underlying29 (by kernel_rfl) h with ⟨hcs, _⟩ | ⟨a, len, cap, m, n, V, D, Pl, hcs, _, hl, hm, hmm, _, hx⟩
  · simp at hcs
    subst hcs
    exact ⟨none, 0, [], rfl, by simp, .inl rfl⟩
  · simp at hcs hmm
    subst hcs hmm
    have ml : maxLen ≤ 9223372036854775807 := by decide
    have each : ∀ i, i < len → ∃ q : Bool, V i = .bool q := fun i hi => by
      have h1 := (hx i (by omega)).2
      exact openT h1
    obtain ⟨Q, hQ⟩ := Deep.choose_lt each
    refine ⟨some a, m, (List.range len).map Q, by simp, by simp; omega, ?_⟩
    by_cases h0 : len = 0
    · exact .inl (by simp [h0])
    · have c0 := (hx 0 (by omega)).1
      have ea := addr_none c0
      refine .inr ⟨a.block, a.off, by rw [← ea], fun i hi => ?_⟩
      simp at hi
      have c := (hx i (by omega)).1
      rw [ea, Addr.add_lit, hQ i (by omega)] at c
      simpa using c
theorem openJ {H : Type} {enc : TypeId × Value → H} {W : World} {fuel : Nat} {v : Value} {y : DataW H × List MemPlace} (h : DataW.trod enc Tryz.prog W 0 (fun _ => true) true fuel 30 [v] = some y) : ∃ a cap xs, v = .slice a (List.length xs) cap ∧ MatsA W a xs := by
  rcases Deep.open_slice1 Tryz.underlying30 (by kernel_rfl) h with ⟨hcs, _⟩ | ⟨a, len, cap, m, n, V, D, Pl, hcs, _, hl, hm, hmm, _, hx⟩
  · simp at hcs
    subst hcs
    exact ⟨none, 0, [], rfl, by simp, fun i hi => by simp at hi, .inl rfl⟩
  · simp at hcs hmm
    subst hcs hmm
    have ml : maxLen ≤ 9223372036854775807 := by decide
    have each : ∀ i, i < len → ∃ q : Option Addr × Nat × List Int, V i = .slice q.1 q.2.2.length q.2.1 ∧ IntsA W q.1 q.2.2 := fun i hi => by
      obtain ⟨b, c, xs, e1, e2⟩ := openI (hx i (by omega)).2
      exact ⟨(b, c, xs), e1, e2⟩
    obtain ⟨Q, hQ⟩ := Deep.choose_lt each
    refine ⟨some a, m, (List.range len).map fun i => (Q i).2.2, by simp, by simp; omega, fun i hi => ?_, ?_⟩
    · simp at hi
      have := (hQ i (by omega)).2.1
      simpa using this
    · by_cases h0 : len = 0
      · exact .inl (by simp [h0])
      · have c0 := (hx 0 (by omega)).1
        have ea := addr_none c0
        refine .inr ⟨a.block, a.off, by rw [← ea], fun i hi => ?_⟩
        simp at hi
        have c := (hx i (by omega)).1
        rw [ea, Addr.add_lit, (hQ i (by omega)).1] at c
        have d := (hQ i (by omega)).2.2
        exact ⟨(Q i).1, (Q i).2.1, by simpa using c, by simpa using d⟩
end Go.Proofs.YthldhjifnpfmiaaGreatDoor
