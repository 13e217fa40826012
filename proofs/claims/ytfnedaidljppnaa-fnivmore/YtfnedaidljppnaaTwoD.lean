/- What is drawn of two intervals; a number of an interval. -/
import Derived.Test.YtfnedaidljppnaaIvS
namespace Go.Proofs.Ytfnedaidljppnaa
open Go.RowKit Go.Iv
set_option linter.unusedSimpArgs false

set_option maxHeartbeats 1000000 in
theorem DrawIvAdd_c (a : Option Addr) (len cap : Nat) (w : World) (h : Code w a len) : Calls Try.prog 8 #[.slice a len cap] w fun e w' => ∃ l g l' g' : Int, e = .returned (.tuple #[.agg #[.int .i64 l, .int .i64 g], .agg #[.int .i64 l', .int .i64 g']]) ∧ In l ∧ In g ∧ In l' ∧ In g' ∧ Below w.heap.size w w' := by
  have H0 := hide h
  clear h
  go_enter Try.func8, Try.ntmps8
  go_wp2_with fail
  refine (open_c _ _ _ _).mono ?_
  rintro e w1 ⟨rfl, hw1⟩
  have KU : Below w.heap.size w ((w.alloc (Obj.cells #[.int .i64 0, .int .i64 0] 25)).alloc (Obj.cells #[.int .i64 0, .int .i64 0] 25)) := ((Below.refl _ _).alloc (Nat.le_refl _) _).alloc (by simp) _
  have su : ((w.alloc (Obj.cells #[.int .i64 0, .int .i64 0] 25)).alloc (Obj.cells #[.int .i64 0, .int .i64 0] 25)).heap.size = w.heap.size + 1 + 1 := by simp
  have n0 : ((w.alloc (Obj.cells #[.int .i64 0, .int .i64 0] 25)).alloc (Obj.cells #[.int .i64 0, .int .i64 0] 25)).heap[w.heap.size]? = some (Obj.cells #[.int .i64 0, .int .i64 0] 25) := (heap_alloc_old _ _ (by simp)).trans (heap_alloc_new _ _)
  have n1 : ((w.alloc (Obj.cells #[.int .i64 0, .int .i64 0] 25)).alloc (Obj.cells #[.int .i64 0, .int .i64 0] 25)).heap[w.heap.size + 1]? = some (Obj.cells #[.int .i64 0, .int .i64 0] 25) := by
    have := heap_alloc_new (w.alloc (Obj.cells #[.int .i64 0, .int .i64 0] 25)) (Obj.cells #[.int .i64 0, .int .i64 0] 25)
    simpa using this
  have hc : Code ((w.alloc (Obj.cells #[.int .i64 0, .int .i64 0] 25)).alloc (Obj.cells #[.int .i64 0, .int .i64 0] 25)) a len := ((unhide H0).alloc _).alloc _
  generalize (w.alloc (Obj.cells #[.int .i64 0, .int .i64 0] 25)).alloc (Obj.cells #[.int .i64 0, .int .i64 0] 25) = U at *
  have hl1 : Left (w.heap.size + 1 + 1) a len cap U w1 := by rw [hw1, ← su]; exact open_rdr _ _ _ _ hc
  have HL1 := hide hl1
  have HU := hide (show Below w.heap.size w U ∧ U.heap.size = w.heap.size + 1 + 1 ∧ U.heap[w.heap.size]? = some (Obj.cells #[.int .i64 0, .int .i64 0] 25) ∧ U.heap[w.heap.size + 1]? = some (Obj.cells #[.int .i64 0, .int .i64 0] 25) from ⟨KU, su, n0, n1⟩)
  rw [su]
  clear hw1 H0 KU su n0 n1 hc hl1
  generalize hB : w.heap.size = B at *
  have HB := hide hB
  clear hB
  go_wp2_with fail
  refine (iv_c _ _ _ _ _ (unhide HL1).1).mono ?_
  rintro e w2 ⟨l, g, rfl, lin, gin, hl⟩
  have HL2 := hide ((unhide HL1).trans hl)
  have XI := hide (And.intro lin gin)
  clear hl lin gin HL1
  go_wp2_with fail
  refine (iv_c _ _ _ _ _ (unhide HL2).1).mono ?_
  rintro e w3 ⟨l', g', rfl, lin, gin, hl⟩
  have HL3 := hide ((unhide HL2).trans hl)
  have YI := hide (And.intro lin gin)
  clear hl lin gin HL2
  have nb := ((unhide HL3).2.block B (by have := (unhide HU).2.1; omega) (by omega)).trans (unhide HU).2.2.1
  have nc := ((unhide HL3).2.block (B + 1) (by have := (unhide HU).2.1; omega) (by omega)).trans (unhide HU).2.2.2
  have b0 : w3.cell? ⟨B, 0, none⟩ = some (.int .i64 0) := cell_ob nb
  have b1 : w3.cell? ⟨B, 1, none⟩ = some (.int .i64 0) := cell_ob nb
  have f0 : w3.frozen? ⟨B, 0, none⟩ = false := frozen_ob nb
  have f1 : w3.frozen? ⟨B, 1, none⟩ = false := frozen_ob nb
  have c0 : w3.cell? ⟨B + 1, 0, none⟩ = some (.int .i64 0) := cell_ob nc
  have c1 : w3.cell? ⟨B + 1, 1, none⟩ = some (.int .i64 0) := cell_ob nc
  have g0 : w3.frozen? ⟨B + 1, 0, none⟩ = false := frozen_ob nc
  have g1 : w3.frozen? ⟨B + 1, 1, none⟩ = false := frozen_ob nc
  have KW := hide (((unhide HU).1.trans ((unhide HL3).2.below (show B ≤ B + 1 + 1 by omega) (by have := (unhide HU).2.1; omega))))
  clear nb nc
  go_wp2
  exact bodyPost_ret (v := .tuple #[.agg #[.int .i64 l, .int .i64 g], .agg #[.int .i64 l', .int .i64 g']]) (by simp [results, Try.results8, go_sem, b0, b1, c0, c1]) rfl ⟨l, g, l', g', rfl, (unhide XI).1, (unhide XI).2, (unhide YI).1, (unhide YI).2, by rw [unhide HB]; exact ((((unhide KW).setCell (by simp) _).setCell (by simp) _).setCell (by simp) _).setCell (by simp) _⟩
theorem byteOf_c (a : Option Addr) (len cap : Nat) (i : Nat) (hi : i ≤ 1000) (w : World) (h : Code w a len) : Calls Try.prog 9 #[.slice a len cap, .int .i64 i] w fun e w' => ∃ n : Int, e = .returned (.int .i64 n) ∧ 0 ≤ n ∧ n ≤ 255 ∧ w' = w := by
  have hl := h.1
  by_cases h0 : len = 0
  · subst h0
    clear h
    go_enter Try.func9, Try.ntmps9
    go_wp2
    go_ret
    exact ⟨0, rfl, by omega, by omega, rfl⟩
  · rcases h.2 with h1 | ⟨cb, co, rfl, hc⟩
    · exact absurd h1 h0
    · have hlt : i % len < len := Nat.mod_lt _ (by omega)
      obtain ⟨z, hz, z0, z1⟩ := hc (i % len) hlt
      have e0 : ((len : Int) == 0) = false := by simp; omega
      have e1 : ((i : Int)).tmod (len : Int) = ((i % len : Nat) : Int) := by rw [Int.tmod_eq_emod_of_nonneg (by omega)]; exact (Int.natCast_emod i len).symm
      have e2 : ((i : Int)) % (len : Int) = ((i % len : Nat) : Int) := (Int.natCast_emod i len).symm
      generalize i % len = j at *
      have hj : (j : Int) < (len : Int) := by omega
      have hl' : (len : Int) ≤ 1048576 := by omega
      have hi' : (i : Int) ≤ 1000 := by omega
      clear h hc h0
      go_enter Try.func9, Try.ntmps9
      go_wp2
      go_ret
      exact ⟨z, rfl, z0, z1, rfl⟩

end Go.Proofs.Ytfnedaidljppnaa
