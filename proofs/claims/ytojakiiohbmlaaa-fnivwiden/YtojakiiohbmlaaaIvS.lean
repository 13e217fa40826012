/- What is drawn of intervals, from a code: their ends fit. -/
import Derived.Test.YtojakiiohbmlaaaIvR
namespace Go.Proofs.Ytojakiiohbmlaaa
open Go.RowKit Go.Iv
set_option linter.unusedSimpArgs false

theorem mn_in {x y : Int} (hx : In x) (hy : In y) : In (mn x y) := by unfold mn; split <;> assumption
theorem mx_in {x y : Int} (hx : In x) (hy : In y) : In (mx x y) := by unfold mx; split <;> assumption
theorem Left.call {b len cap : Nat} {a : Option Addr} {u w w' : World} (h : Left b a len cap u w) (k : Below w.heap.size w w') : Left b a len cap u w' := by
  refine ⟨?_, ⟨k.os.trans h.2.os, k.tape.trans h.2.tape, k.output.trans h.2.output, Nat.le_trans h.2.size k.size, fun c hc hne => (k.block c (Nat.lt_of_lt_of_le hc h.2.size)).trans (h.2.block c hc hne)⟩⟩
  obtain ⟨⟨p, hp, hh⟩, hcode, hx⟩ := h.1
  exact ⟨⟨p, hp, (k.block _ h.1.lt).trans hh⟩, hcode.below k, hx⟩

set_option maxHeartbeats 1000000 in
theorem DrawIvLeq_c (a : Option Addr) (len cap : Nat) (w : World) (h : Code w a len) : Calls Try.prog 19 #[.slice a len cap] w fun e w' => ∃ l g l' g' : Int, e = .returned (.tuple #[.agg #[.int .i64 l, .int .i64 g], .agg #[.int .i64 l', .int .i64 g']]) ∧ In l ∧ In g ∧ In l' ∧ In g' ∧ Below w.heap.size w w' := by
  have H0 := hide h
  clear h
  go_enter Try.func19, Try.ntmps19
  go_wp2_with fail
  refine (open_c _ _ _ _).mono ?_
  rintro e w1 ⟨rfl, hw1⟩
  have KU : Below w.heap.size w ((w.alloc (Obj.cells #[.int .i64 0, .int .i64 0] 25)).alloc (Obj.cells #[.int .i64 0, .int .i64 0] 25)) := ((Below.refl _ _).alloc (Nat.le_refl _) _).alloc (by simp) _
  have su : ((w.alloc (Obj.cells #[.int .i64 0, .int .i64 0] 25)).alloc (Obj.cells #[.int .i64 0, .int .i64 0] 25)).heap.size = w.heap.size + 1 + 1 := by simp
  have n0 : ((w.alloc (Obj.cells #[.int .i64 0, .int .i64 0] 25)).alloc (Obj.cells #[.int .i64 0, .int .i64 0] 25)).heap[w.heap.size]? = some (Obj.cells #[.int .i64 0, .int .i64 0] 25) := (heap_alloc_old _ _ (by simp)).trans (heap_alloc_new _ _)
  have n1 : ((w.alloc (Obj.cells #[.int .i64 0, .int .i64 0] 25)).alloc (Obj.cells #[.int .i64 0, .int .i64 0] 25)).heap[w.heap.size + 1]? = some (Obj.cells #[.int .i64 0, .int .i64 0] 25) := by
    have := heap_alloc_new (w.alloc (Obj.cells #[.int .i64 0, .int .i64 0] 25)) (Obj.cells #[.int .i64 0, .int .i64 0] 25)
    simpa using this
  have hc : Code ((w.alloc (Obj.cells #[.int .i64 0, .int .i64 0] 25)).alloc (Obj.cells #[.int .i64 0, .int .i64 0] 25)) a len := ((unhide H0).alloc _).alloc _
  generalize (w.alloc (Obj.cells #[.int .i64 0, .int .i64 0] 25)).alloc (Obj.cells #[.int .i64 0, .int .i64 0] 25) = U at *
  have hl1 : Left (w.heap.size + 1 + 1) a len cap U w1 := by rw [hw1, ← su]; exact open_rdr _ _ _ _ hc
  have HL1 := hide hl1
  have HU := hide (show Below w.heap.size w U ∧ U.heap.size = w.heap.size + 1 + 1 ∧ U.heap[w.heap.size]? = some (Obj.cells #[.int .i64 0, .int .i64 0] 25) ∧ U.heap[w.heap.size + 1]? = some (Obj.cells #[.int .i64 0, .int .i64 0] 25) from ⟨KU, su, n0, n1⟩)
  rw [su]
  clear hw1 H0 KU su n0 n1 hc hl1
  generalize hB : w.heap.size = B at *
  have HB := hide hB
  clear hB
  go_wp2_with fail
  refine (iv_c _ _ _ _ _ (by first | exact (unhide HL1).1 | exact (unhide HL1).1.alloc _)).mono ?_
  rintro e w2 ⟨l, g, rfl, lin, gin, hl⟩
  have HL2 := hide (show Left (B + 1 + 1) a len cap U w2 by first | exact (unhide HL1).trans hl | exact ((unhide HL1).alloc _).trans hl)
  have XI := hide lin
  have YI := hide gin
  clear hl lin gin
  go_wp2_with fail
  have hl3 : Left (B + 1 + 1) a len cap U (w2.alloc (Obj.cells #[.int .i64 l, .int .i64 g] 25)) := (unhide HL2).alloc _
  have na := heap_alloc_new w2 (Obj.cells #[.int .i64 l, .int .i64 g] 25)
  have hz : w2.heap.size < (w2.alloc (Obj.cells #[.int .i64 l, .int .i64 g] 25)).heap.size := by simp
  have hA : B + 1 + 1 < w2.heap.size := (unhide HL2).1.lt
  generalize w2.alloc (Obj.cells #[.int .i64 l, .int .i64 g] 25) = w3 at *
  generalize w2.heap.size = A at *
  clear HL2 HL1
  refine (once_c _ _ _ _ _ (by decide) (by decide) _ hl3.1).mono ?_
  rintro e w4 ⟨q, rfl, hl⟩
  have HL4 := hide (hl3.trans hl)
  have NA4 := hide ((hl.2.block _ hz (by omega)).trans na)
  have hz4 : A < w4.heap.size := Nat.lt_of_lt_of_le hz hl.2.size
  clear hl hl3 na hz
  have cA0 : w4.cell? ⟨A, 0, none⟩ = some (.int .i64 l) := cell_ob (unhide NA4)
  have cA1 : w4.cell? ⟨A, 1, none⟩ = some (.int .i64 g) := cell_ob (unhide NA4)
  cases q
  · go_wp2_with fail
    go_region_with (go_at_call 41; refine (iv_c _ _ _ _ _ (by exact (unhide HL4).1)).mono ?_; rintro e w5 ⟨l', g', rfl, lin, gin, hl⟩; have XI' := hide lin; have YI' := hide gin; have kp := hl.2.undrew; have HL5 := hide ((unhide HL4).trans ⟨hl.1, kp⟩); have NA := hide ((kp.block _ hz4 (by omega)).trans (unhide NA4)); have hz5 : A < w5.heap.size := Nat.lt_of_lt_of_le hz4 kp.size; clear hl lin gin kp; have nb := ((unhide HL5).2.block B (by have := (unhide HU).2.1; omega) (by omega)).trans (unhide HU).2.2.1; have nb1 := ((unhide HL5).2.block (B + 1) (by have := (unhide HU).2.1; omega) (by omega)).trans (unhide HU).2.2.2; have dA0 : w5.cell? ⟨A, 0, none⟩ = some (.int .i64 l) := cell_ob (unhide NA); have dA1 : w5.cell? ⟨A, 1, none⟩ = some (.int .i64 g) := cell_ob (unhide NA); have b0 : w5.cell? ⟨B, 0, none⟩ = some (.int .i64 0) := cell_ob nb; have b1 : w5.cell? ⟨B, 1, none⟩ = some (.int .i64 0) := cell_ob nb; have b2 : w5.cell? ⟨B + 1, 0, none⟩ = some (.int .i64 0) := cell_ob nb1; have b3 : w5.cell? ⟨B + 1, 1, none⟩ = some (.int .i64 0) := cell_ob nb1; have f0 : w5.frozen? ⟨B, 0, none⟩ = false := frozen_ob nb; have f1 : w5.frozen? ⟨B, 1, none⟩ = false := frozen_ob nb; have f2 : w5.frozen? ⟨B + 1, 0, none⟩ = false := frozen_ob nb1; have f3 : w5.frozen? ⟨B + 1, 1, none⟩ = false := frozen_ob nb1; have NB := hide (And.intro nb nb1); have K := hide (((unhide HU).1.trans ((unhide HL5).2.below (show B ≤ B + 1 + 1 by omega) (by have := (unhide HU).2.1; omega)))); clear nb nb1)
    all_goals go_wp2_with fail
    all_goals exact bodyPost_ret (v := .tuple #[.agg #[.int .i64 l, .int .i64 g], .agg #[.int .i64 l', .int .i64 g']]) (by simp [results, Try.results19, go_sem, b0, b1, b2, b3]) rfl ⟨l, g, l', g', rfl, unhide XI, unhide YI, unhide XI', unhide YI', by rw [unhide HB]; exact ((((unhide K).setCell (by simp) _).setCell (by simp) _).setCell (by simp) _).setCell (by simp) _⟩
  · go_wp2_with fail
    go_region_with (first | (go_at_call 41; refine (iv_c _ _ _ _ _ (by exact (unhide HL4).1)).mono ?_; rintro e w5 ⟨l', g', rfl, lin, gin, hl⟩; have XI' := hide lin; have YI' := hide gin; have kp := hl.2.undrew; have HL5 := hide ((unhide HL4).trans ⟨hl.1, kp⟩); have NA := hide ((kp.block _ hz4 (by omega)).trans (unhide NA4)); have hz5 : A < w5.heap.size := Nat.lt_of_lt_of_le hz4 kp.size; clear hl lin gin kp; have nb := ((unhide HL5).2.block B (by have := (unhide HU).2.1; omega) (by omega)).trans (unhide HU).2.2.1; have nb1 := ((unhide HL5).2.block (B + 1) (by have := (unhide HU).2.1; omega) (by omega)).trans (unhide HU).2.2.2; have dA0 : w5.cell? ⟨A, 0, none⟩ = some (.int .i64 l) := cell_ob (unhide NA); have dA1 : w5.cell? ⟨A, 1, none⟩ = some (.int .i64 g) := cell_ob (unhide NA); have b0 : w5.cell? ⟨B, 0, none⟩ = some (.int .i64 0) := cell_ob nb; have b1 : w5.cell? ⟨B, 1, none⟩ = some (.int .i64 0) := cell_ob nb; have b2 : w5.cell? ⟨B + 1, 0, none⟩ = some (.int .i64 0) := cell_ob nb1; have b3 : w5.cell? ⟨B + 1, 1, none⟩ = some (.int .i64 0) := cell_ob nb1; have f0 : w5.frozen? ⟨B, 0, none⟩ = false := frozen_ob nb; have f1 : w5.frozen? ⟨B, 1, none⟩ = false := frozen_ob nb; have f2 : w5.frozen? ⟨B + 1, 0, none⟩ = false := frozen_ob nb1; have f3 : w5.frozen? ⟨B + 1, 1, none⟩ = false := frozen_ob nb1; have NB := hide (And.intro nb nb1); have K := hide (((unhide HU).1.trans ((unhide HL5).2.below (show B ≤ B + 1 + 1 by omega) (by have := (unhide HU).2.1; omega)))); clear nb nb1) | (go_at_call 39; refine (l2Join_c _ _ _ _ _).mono ?_; rintro e w6 ⟨rfl, hb⟩; have nb := (hb.block B (show B < w5.heap.size by omega)).trans (unhide NB).1; have nb1 := (hb.block (B + 1) (show B + 1 < w5.heap.size by omega)).trans (unhide NB).2; have NA := hide ((hb.block A (by exact hz5)).trans (unhide NA)); clear dA0 dA1 b0 b1 b2 b3 f0 f1 f2 f3; have dA0 : w6.cell? ⟨A, 0, none⟩ = some (.int .i64 l) := cell_ob (unhide NA); have dA1 : w6.cell? ⟨A, 1, none⟩ = some (.int .i64 g) := cell_ob (unhide NA); have b0 : w6.cell? ⟨B, 0, none⟩ = some (.int .i64 0) := cell_ob nb; have b1 : w6.cell? ⟨B, 1, none⟩ = some (.int .i64 0) := cell_ob nb; have b2 : w6.cell? ⟨B + 1, 0, none⟩ = some (.int .i64 0) := cell_ob nb1; have b3 : w6.cell? ⟨B + 1, 1, none⟩ = some (.int .i64 0) := cell_ob nb1; have f0 : w6.frozen? ⟨B, 0, none⟩ = false := frozen_ob nb; have f1 : w6.frozen? ⟨B, 1, none⟩ = false := frozen_ob nb; have f2 : w6.frozen? ⟨B + 1, 0, none⟩ = false := frozen_ob nb1; have f3 : w6.frozen? ⟨B + 1, 1, none⟩ = false := frozen_ob nb1; have K6 := hide (((unhide K).trans (hb.mono (show B ≤ w5.heap.size by omega)))); clear nb nb1 hb))
    all_goals go_wp2_with fail
    all_goals exact bodyPost_ret (v := .tuple #[.agg #[.int .i64 l, .int .i64 g], .agg #[.int .i64 (mn l l'), .int .i64 (mx g g')]]) (by simp [results, Try.results19, go_sem, b0, b1, b2, b3]) rfl ⟨l, g, mn l l', mx g g', rfl, unhide XI, unhide YI, mn_in (unhide XI) (unhide XI'), mx_in (unhide YI) (unhide YI'), by rw [unhide HB]; exact ((((unhide K6).setCell (by simp) _).setCell (by simp) _).setCell (by simp) _).setCell (by simp) _⟩
end Go.Proofs.Ytojakiiohbmlaaa
