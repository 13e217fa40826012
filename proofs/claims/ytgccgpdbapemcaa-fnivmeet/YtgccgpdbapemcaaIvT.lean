/- What is drawn for the laws of intervals. -/
import Derived.Test.YtgccgpdbapemcaaIvS
namespace Go.Proofs.Ytgccgpdbapemcaa
open Go.RowKit Go.Iv
set_option linter.unusedSimpArgs false

set_option maxHeartbeats 1000000 in
theorem DrawIvJoin_c (a : Option Addr) (len cap : Nat) (w : World) (h : Code w a len) : Calls Try.prog 14 #[.slice a len cap] w fun e w' => ∃ l g l' g' : Int, e = .returned (.tuple #[.agg #[.int .i64 l, .int .i64 g], .agg #[.int .i64 l', .int .i64 g']]) ∧ In l ∧ In g ∧ In l' ∧ In g' ∧ Below w.heap.size w w' := by
  have H0 := hide h
  clear h
  go_enter Try.func14, Try.ntmps14
  go_wp2_with fail
  refine (DrawIvLeq_c _ _ _ _ ?_).mono ?_
  · first | exact (unhide H0) | exact (unhide H0).alloc _ | exact ((unhide H0).alloc _).alloc _
  rintro e w1 ⟨x, y, x', y', rfl, hx, hy, hx', hy', hb⟩
  have X := hide (show In x ∧ In y ∧ In x' ∧ In y' from ⟨hx, hy, hx', hy'⟩)
  clear hx hy hx' hy' H0
  obtain ⟨hc1, hf1⟩ := bcell hb
  have K1 := hide (((((Below.refl _ w).alloc (Nat.le_refl _) _).alloc (by simp) _).trans (hb.mono (by simp; omega))))
  have z1 : w.heap.size + 1 < w1.heap.size := by have := hb.size; simp at this; omega
  clear hb
  have b0 : w1.cell? ⟨w.heap.size, 0, none⟩ = some (.int .i64 0) := (hc1 _ _ (by simp; omega)).trans (by simp)
  have b1 : w1.cell? ⟨w.heap.size, 1, none⟩ = some (.int .i64 0) := (hc1 _ _ (by simp; omega)).trans (by simp)
  have b2 : w1.cell? ⟨w.heap.size + 1, 0, none⟩ = some (.int .i64 0) := (hc1 _ _ (by simp)).trans (by simp)
  have b3 : w1.cell? ⟨w.heap.size + 1, 1, none⟩ = some (.int .i64 0) := (hc1 _ _ (by simp)).trans (by simp)
  have f0 : w1.frozen? ⟨w.heap.size, 0, none⟩ = false := (hf1 _ _ (by simp; omega)).trans (by simp)
  have f1 : w1.frozen? ⟨w.heap.size, 1, none⟩ = false := (hf1 _ _ (by simp; omega)).trans (by simp)
  have f2 : w1.frozen? ⟨w.heap.size + 1, 0, none⟩ = false := (hf1 _ _ (by simp)).trans (by simp)
  have f3 : w1.frozen? ⟨w.heap.size + 1, 1, none⟩ = false := (hf1 _ _ (by simp)).trans (by simp)
  clear hc1 hf1
  go_wp2
  exact bodyPost_ret (v := .tuple #[.agg #[.int .i64 x, .int .i64 y], .agg #[.int .i64 x', .int .i64 y']]) (by simp [results, Try.results14, go_sem, b0, b1, b2, b3]) rfl ⟨x, y, x', y', rfl, (unhide X).1, (unhide X).2.1, (unhide X).2.2.1, (unhide X).2.2.2, ((((unhide K1).setCell (by simp) _).setCell (by simp) _).setCell (by simp) _).setCell (by simp) _⟩
set_option maxHeartbeats 1000000 in
theorem DrawIvMeet_c (a : Option Addr) (len cap : Nat) (w : World) (h : Code w a len) : Calls Try.prog 22 #[.slice a len cap] w fun e w' => ∃ l g l' g' : Int, e = .returned (.tuple #[.agg #[.int .i64 l, .int .i64 g], .agg #[.int .i64 l', .int .i64 g']]) ∧ In l ∧ In g ∧ In l' ∧ In g' ∧ Below w.heap.size w w' := by
  have H0 := hide h
  clear h
  go_enter Try.func22, Try.ntmps22
  go_wp2_with fail
  refine (DrawIvLeq_c _ _ _ _ ?_).mono ?_
  · first | exact (unhide H0) | exact (unhide H0).alloc _ | exact ((unhide H0).alloc _).alloc _
  rintro e w1 ⟨x, y, x', y', rfl, hx, hy, hx', hy', hb⟩
  have X := hide (show In x ∧ In y ∧ In x' ∧ In y' from ⟨hx, hy, hx', hy'⟩)
  clear hx hy hx' hy' H0
  obtain ⟨hc1, hf1⟩ := bcell hb
  have K1 := hide (((((Below.refl _ w).alloc (Nat.le_refl _) _).alloc (by simp) _).trans (hb.mono (by simp; omega))))
  have z1 : w.heap.size + 1 < w1.heap.size := by have := hb.size; simp at this; omega
  clear hb
  have b0 : w1.cell? ⟨w.heap.size, 0, none⟩ = some (.int .i64 0) := (hc1 _ _ (by simp; omega)).trans (by simp)
  have b1 : w1.cell? ⟨w.heap.size, 1, none⟩ = some (.int .i64 0) := (hc1 _ _ (by simp; omega)).trans (by simp)
  have b2 : w1.cell? ⟨w.heap.size + 1, 0, none⟩ = some (.int .i64 0) := (hc1 _ _ (by simp)).trans (by simp)
  have b3 : w1.cell? ⟨w.heap.size + 1, 1, none⟩ = some (.int .i64 0) := (hc1 _ _ (by simp)).trans (by simp)
  have f0 : w1.frozen? ⟨w.heap.size, 0, none⟩ = false := (hf1 _ _ (by simp; omega)).trans (by simp)
  have f1 : w1.frozen? ⟨w.heap.size, 1, none⟩ = false := (hf1 _ _ (by simp; omega)).trans (by simp)
  have f2 : w1.frozen? ⟨w.heap.size + 1, 0, none⟩ = false := (hf1 _ _ (by simp)).trans (by simp)
  have f3 : w1.frozen? ⟨w.heap.size + 1, 1, none⟩ = false := (hf1 _ _ (by simp)).trans (by simp)
  clear hc1 hf1
  go_wp2
  exact bodyPost_ret (v := .tuple #[.agg #[.int .i64 x, .int .i64 y], .agg #[.int .i64 x', .int .i64 y']]) (by simp [results, Try.results22, go_sem, b0, b1, b2, b3]) rfl ⟨x, y, x', y', rfl, (unhide X).1, (unhide X).2.1, (unhide X).2.2.1, (unhide X).2.2.2, ((((unhide K1).setCell (by simp) _).setCell (by simp) _).setCell (by simp) _).setCell (by simp) _⟩
theorem near_c (b : Nat) (a : Option Addr) (len cap : Nat) (l g : Int) (hl : In l) (hg : In g) (hd : g - l < 18446744073709551615) (w : World) (h : Rdr w b a len cap) : Calls Try.prog 44 #[.pointer (some ⟨b, 0, none⟩), .int .i64 l, .int .i64 g] w fun e w' => ∃ n : Int, e = .returned (.int .i64 n) ∧ In n ∧ Left b a len cap w w' := by
  have R := hide h
  have XI := hide hl
  have YI := hide hg
  have HD := hide hd
  clear h hl hg hd
  go_enter Try.func44, Try.ntmps44
  go_wp2_with fail
  refine (below_c _ _ _ _ _ (by decide) _ (unhide R)).mono ?_
  rintro e w1 ⟨x, rfl, x0, x1, x2, hl⟩
  have HL := hide hl
  clear hl x2 R
  by_cases e0 : x = 0
  · have e0' : (x == 0) = true := by simpa using e0
    clear e0
    go_wp2
    go_ret
    exact ⟨l, rfl, unhide XI, unhide HL⟩
  have e0' : (x == 0) = false := by simpa using e0
  by_cases e1 : x = 1
  · have e1' : (x == 1) = true := by simpa using e1
    clear e0 e1
    go_wp2
    go_ret
    exact ⟨g, rfl, unhide YI, unhide HL⟩
  have e1' : (x == 1) = false := by simpa using e1
  clear e0 e1
  by_cases hgl : g < l
  · go_wp2
    go_ret
    exact ⟨l, rfl, unhide XI, unhide HL⟩
  go_wp2_with fail
  refine (word_c _ _ _ _ _ (unhide HL).1).mono ?_
  rintro e w2 ⟨y, rfl, y0, y1, hl⟩
  have HL2 := hide ((unhide HL).trans hl)
  clear hl
  have hnz : ¬ IntKind.u64.wrap (wrap64 (wrap64 (g - l) + 1)) = 0 := by
    have := unhide HD
    have := unhide XI
    have := unhide YI
    rw [IntKind.wrap_u64]
    unfold wrap64 In at *
    omega
  go_wp2
  go_ret
  exact ⟨_, rfl, wrap_in _, unhide HL2⟩
end Go.Proofs.Ytgccgpdbapemcaa
