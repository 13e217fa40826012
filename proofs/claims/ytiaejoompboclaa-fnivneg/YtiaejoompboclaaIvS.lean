/- What is drawn of intervals, from a code: their ends fit. -/
import Derived.Test.YtiaejoompboclaaIvR
namespace Go.Proofs.Ytiaejoompboclaa
open Go.RowKit Go.Iv
set_option linter.unusedSimpArgs false

theorem mn_in {x y : Int} (hx : In x) (hy : In y) : In (mn x y) := by unfold mn; split <;> assumption
theorem mx_in {x y : Int} (hx : In x) (hy : In y) : In (mx x y) := by unfold mx; split <;> assumption
theorem Left.call {b len cap : Nat} {a : Option Addr} {u w w' : World} (h : Left b a len cap u w) (k : Below w.heap.size w w') : Left b a len cap u w' := by
  refine ⟨?_, ⟨k.os.trans h.2.os, k.tape.trans h.2.tape, k.output.trans h.2.output, Nat.le_trans h.2.size k.size, fun c hc hne => (k.block c (Nat.lt_of_lt_of_le hc h.2.size)).trans (h.2.block c hc hne)⟩⟩
  obtain ⟨⟨p, hp, hh⟩, hcode, hx⟩ := h.1
  exact ⟨⟨p, hp, (k.block _ h.1.lt).trans hh⟩, hcode.below k, hx⟩

set_option maxHeartbeats 1000000 in
theorem DrawIvOk_c (a : Option Addr) (len cap : Nat) (w : World) (h : Code w a len) : Calls Try.prog 24 #[.slice a len cap] w fun e w' => ∃ l g : Int, e = .returned (.agg #[.int .i64 l, .int .i64 g]) ∧ In l ∧ In g ∧ Below w.heap.size w w' := by
  have H0 := hide h
  clear h
  go_enter Try.func24, Try.ntmps24
  go_wp2_with fail
  refine (open_c _ _ _ _).mono ?_
  rintro e w1 ⟨rfl, hw1⟩
  have KU : Below w.heap.size w (w.alloc (Obj.cells #[.int .i64 0, .int .i64 0] 25)) := (Below.refl _ _).alloc (Nat.le_refl _) _
  have su : (w.alloc (Obj.cells #[.int .i64 0, .int .i64 0] 25)).heap.size = w.heap.size + 1 := by simp
  have n0 := heap_alloc_new w (Obj.cells #[.int .i64 0, .int .i64 0] 25)
  have hc : Code (w.alloc (Obj.cells #[.int .i64 0, .int .i64 0] 25)) a len := (unhide H0).alloc _
  generalize w.alloc (Obj.cells #[.int .i64 0, .int .i64 0] 25) = U at *
  have hl1 : Left (w.heap.size + 1) a len cap U w1 := by rw [hw1, ← su]; exact open_rdr _ _ _ _ hc
  have HL1 := hide hl1
  have HU := hide (show Below w.heap.size w U ∧ U.heap.size = w.heap.size + 1 ∧ U.heap[w.heap.size]? = some (Obj.cells #[.int .i64 0, .int .i64 0] 25) from ⟨KU, su, n0⟩)
  rw [su]
  clear hw1 H0 KU su n0 hc hl1
  generalize hB : w.heap.size = B at *
  have HB := hide hB
  clear hB
  go_wp2_with fail
  refine (iv_c _ _ _ _ _ (unhide HL1).1).mono ?_
  rintro e w2 ⟨l, g, rfl, lin, gin, hl⟩
  have HL2 := hide ((unhide HL1).trans hl)
  have XI := hide lin
  have YI := hide gin
  clear hl lin gin HL1
  have nb := ((unhide HL2).2.block B (by have := (unhide HU).2.1; omega) (by omega)).trans (unhide HU).2.2
  have b0 : w2.cell? ⟨B, 0, none⟩ = some (.int .i64 0) := cell_ob nb
  have b1 : w2.cell? ⟨B, 1, none⟩ = some (.int .i64 0) := cell_ob nb
  have f0 : w2.frozen? ⟨B, 0, none⟩ = false := frozen_ob nb
  have f1 : w2.frozen? ⟨B, 1, none⟩ = false := frozen_ob nb
  have KW := hide (((unhide HU).1.trans ((unhide HL2).2.below (show B ≤ B + 1 by omega) (by have := (unhide HU).2.1; omega))))
  clear nb
  go_wp2
  exact bodyPost_ret (v := .agg #[.int .i64 l, .int .i64 g]) (by simp [results, Try.results24, go_sem, b0, b1]) rfl ⟨l, g, rfl, unhide XI, unhide YI, by rw [unhide HB]; exact ((unhide KW).setCell (by simp) _).setCell (by simp) _⟩
theorem DrawIvNeg_c (a : Option Addr) (len cap : Nat) (w : World) (h : Code w a len) : Calls Try.prog 10 #[.slice a len cap] w fun e w' => ∃ l g : Int, e = .returned (.agg #[.int .i64 l, .int .i64 g]) ∧ In l ∧ In g ∧ Below w.heap.size w w' := by
  have H0 := hide h
  clear h
  go_enter Try.func10, Try.ntmps10
  go_wp2_with fail
  refine (DrawIvOk_c _ _ _ _ ((unhide H0).alloc _)).mono ?_
  rintro e w1 ⟨x, y, rfl, hx, hy, hb⟩
  have X := hide (show In x ∧ In y from ⟨hx, hy⟩)
  have K1 := hide (((Below.refl _ w).alloc (Nat.le_refl _) _).trans (hb.mono (by simp)))
  obtain ⟨hc1, hf1⟩ := bcell hb
  have b0 : w1.cell? ⟨w.heap.size, 0, none⟩ = some (.int .i64 0) := (hc1 _ _ (by simp)).trans (by simp)
  have b1 : w1.cell? ⟨w.heap.size, 1, none⟩ = some (.int .i64 0) := (hc1 _ _ (by simp)).trans (by simp)
  have f0 : w1.frozen? ⟨w.heap.size, 0, none⟩ = false := (hf1 _ _ (by simp)).trans (by simp)
  have f1 : w1.frozen? ⟨w.heap.size, 1, none⟩ = false := (hf1 _ _ (by simp)).trans (by simp)
  clear hx hy hb H0 hc1 hf1
  go_wp2
  exact bodyPost_ret (v := .agg #[.int .i64 x, .int .i64 y]) (by simp [results, Try.results10, go_sem, b0, b1]) rfl ⟨x, y, rfl, (unhide X).1, (unhide X).2, ((unhide K1).setCell (by simp) _).setCell (by simp) _⟩
end Go.Proofs.Ytiaejoompboclaa
