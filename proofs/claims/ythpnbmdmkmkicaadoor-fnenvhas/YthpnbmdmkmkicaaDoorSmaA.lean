/- Small intervals, from a code. -/
import Derived.Test.YthpnbmdmkmkicaaDoorIvR
namespace Go.Proofs.YthpnbmdmkmkicaaDoor
open Go.RowKit Go.Iv
set_option linter.unusedSimpArgs false
set_option linter.unusedVariables false

set_option maxRecDepth 20000 in
set_option maxHeartbeats 4000000 in
theorem small_c (b : Nat) (a : Option Addr) (len cap : Nat) (w : World) (h : Rdr w b a len cap) : Calls Tryd.prog 57 #[.pointer (some ⟨b, 0, none⟩)] w fun e w' => ∃ l g : Int, e = .returned (.agg #[.int .i64 l, .int .i64 g]) ∧ In l ∧ In g ∧ Left b a len cap w w' := by
  have R := hide h
  have hb := h.lt
  have hne : w.heap.size ≠ b := by omega
  have HC := hide h.2.1.lt
  clear h
  go_enter Tryd.func57, Tryd.ntmps57
  go_wp2_with fail
  have hr0 : Left b a len cap w (w.alloc (Obj.cells #[.int .i64 0, .int .i64 0] 47)) := (Left.refl (unhide R)).alloc _
  have hn0 := heap_alloc_new w (Obj.cells #[.int .i64 0, .int .i64 0] 47)
  have hz0 : w.heap.size < (w.alloc (Obj.cells #[.int .i64 0, .int .i64 0] 47)).heap.size := by simp
  generalize w.alloc (Obj.cells #[.int .i64 0, .int .i64 0] 47) = w0 at hr0 hn0 hz0 ⊢
  have HR0 := hide hr0
  have HN0 := hide hn0
  clear hr0 hn0 R
  refine (once_c _ _ _ _ _ (by decide) (by decide) _ (unhide HR0).1).mono ?_
  rintro e w1 ⟨q, rfl, hl⟩
  have HR1 := hide ((unhide HR0).trans hl)
  have HN1 := hide ((hl.2.block _ hz0 hne).trans (unhide HN0))
  have hz1 : w.heap.size < w1.heap.size := Nat.lt_of_lt_of_le hz0 hl.2.size
  clear hl HR0 HN0 hz0
  cases q
  · go_wp2_with fail
    refine (below_c _ _ _ _ _ (by decide) _ (unhide HR1).1).mono ?_
    rintro e w2 ⟨r, rfl, r0, r1, r2, hl⟩
    have HR2 := hide ((unhide HR1).trans hl)
    have HN2 := hide ((hl.2.block _ hz1 hne).trans (unhide HN1))
    have hz2 : w.heap.size < w2.heap.size := Nat.lt_of_lt_of_le hz1 hl.2.size
    have k1 : wrap64 (r - 8) = r - 8 := by unfold wrap64; omega
    clear hl HR1 HN1 r2
    go_wp2_with fail
    refine (below_c _ _ _ _ _ (by decide) _ (unhide HR2).1).mono ?_
    rintro e w3 ⟨z, rfl, z0, z1, z2, hl⟩
    have HR3 := hide ((unhide HR2).trans hl)
    have HN3 := hide ((hl.2.block _ hz2 hne).trans (unhide HN2))
    have k2 : wrap64 (r - 8 + z) = r - 8 + z := by unfold wrap64; omega
    have XI := hide (show In (r - 8) by unfold In; omega)
    have YI := hide (show In (r - 8 + z) by unfold In; omega)
    have c0 : w3.cell? ⟨w.heap.size, 0, none⟩ = some (.int .i64 0) := cell_ob (unhide HN3)
    have c1 : w3.cell? ⟨w.heap.size, 1, none⟩ = some (.int .i64 0) := cell_ob (unhide HN3)
    have f0 : w3.frozen? ⟨w.heap.size, 0, none⟩ = false := frozen_ob (unhide HN3)
    have f1 : w3.frozen? ⟨w.heap.size, 1, none⟩ = false := frozen_ob (unhide HN3)
    clear hl HR2 HN2 z2
    go_wp2
    exact bodyPost_ret (v := .agg #[.int .i64 (r - 8), .int .i64 (r - 8 + z)]) (by simp [results, Tryd.results57, go_sem, c0, c1]) rfl ⟨r - 8, r - 8 + z, rfl, unhide XI, unhide YI, ((unhide HR3).set (Nat.le_refl _) hb (unhide HC) _).set (Nat.le_refl _) hb (unhide HC) _⟩
  · go_wp2_with fail
    refine (iv_c _ _ _ _ _ (unhide HR1).1).mono ?_
    rintro e w2 ⟨l, g, rfl, lin, gin, hl⟩
    have HR2 := hide ((unhide HR1).trans hl)
    have HN2 := hide ((hl.2.block _ hz1 hne).trans (unhide HN1))
    have hz2 : w.heap.size < w2.heap.size := Nat.lt_of_lt_of_le hz1 hl.2.size
    have XI := hide lin
    have YI := hide gin
    clear hl HR1 HN1 lin gin
    have c0 : w2.cell? ⟨w.heap.size, 0, none⟩ = some (.int .i64 0) := cell_ob (unhide HN2)
    have c1 : w2.cell? ⟨w.heap.size, 1, none⟩ = some (.int .i64 0) := cell_ob (unhide HN2)
    have f0 : w2.frozen? ⟨w.heap.size, 0, none⟩ = false := frozen_ob (unhide HN2)
    have f1 : w2.frozen? ⟨w.heap.size, 1, none⟩ = false := frozen_ob (unhide HN2)
    clear HN2
    by_cases hgl : g < l
    · have hlg : ¬ l < g := by omega
      go_wp2
      exact bodyPost_ret (v := .agg #[.int .i64 g, .int .i64 l]) (by simp [results, Tryd.results57, go_sem, c0, c1, hz2]) rfl ⟨g, l, rfl, unhide YI, unhide XI, (((unhide HR2).set (Nat.le_refl _) hb (unhide HC) _).set (Nat.le_refl _) hb (unhide HC) _).alloc _⟩
    · have hgl2 : l ≤ g := by omega
      by_cases hlg : l < g
      · go_wp2
        exact bodyPost_ret (v := .agg #[.int .i64 l, .int .i64 g]) (by simp [results, Tryd.results57, go_sem, c0, c1, hz2]) rfl ⟨l, g, rfl, unhide XI, unhide YI, (((unhide HR2).set (Nat.le_refl _) hb (unhide HC) _).set (Nat.le_refl _) hb (unhide HC) _).alloc _⟩
      · obtain rfl : l = g := by omega
        go_wp2
        exact bodyPost_ret (v := .agg #[.int .i64 l, .int .i64 l]) (by simp [results, Tryd.results57, go_sem, c0, c1, hz2]) rfl ⟨l, l, rfl, unhide XI, unhide XI, (((unhide HR2).set (Nat.le_refl _) hb (unhide HC) _).set (Nat.le_refl _) hb (unhide HC) _).alloc _⟩
end Go.Proofs.YthpnbmdmkmkicaaDoor
