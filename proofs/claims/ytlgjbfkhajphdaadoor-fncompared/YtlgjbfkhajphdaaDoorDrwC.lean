/- What is drawn for the laws of comparisons. -/
import Derived.Test.YtlgjbfkhajphdaaDoorIvT
import Derived.Test.YtlgjbfkhajphdaaDoorRefF
namespace Go.Proofs.YtlgjbfkhajphdaaDoor
open Go.RowKit Go.Iv
set_option linter.unusedSimpArgs false
set_option linter.unusedVariables false

set_option maxHeartbeats 1000000 in
theorem off_c (b : Nat) (a : Option Addr) (len cap : Nat) (l g : Int) (hl : In l) (hg : In g) (hd : g - l < 18446744073709551615) (w : World) (h : Rdr w b a len cap) : Calls Tryd.prog 15 #[.pointer (some ⟨b, 0, none⟩), .int .i64 l, .int .i64 g] w fun e w' => ∃ n : Int, e = .returned (.int .i64 n) ∧ In n ∧ Left b a len cap w w' := by
  have R := hide h
  have X := hide (And.intro hl (And.intro hg hd))
  clear h hl hg hd
  go_enter Tryd.func15, Tryd.ntmps15
  go_wp2_with fail
  refine (once_c _ _ _ _ _ (by decide) (by decide) _ (unhide R)).mono ?_
  rintro e w1 ⟨r, rfl, hl⟩
  have HL := hide hl
  clear hl R
  cases r
  · go_wp2_with fail
    refine (near_c _ _ _ _ _ _ (unhide X).1 (unhide X).2.1 (unhide X).2.2 _ (unhide HL).1).mono ?_
    rintro e w2 ⟨n, rfl, hn, hl⟩
    have HL2 := hide ((unhide HL).trans hl)
    have N := hide hn
    clear hl hn HL
    go_wp2
    go_ret
    exact ⟨n, rfl, unhide N, unhide HL2⟩
  · have hlt : b < w1.heap.size := (unhide HL).1.lt
    go_wp2_with fail
    refine (below_c _ _ _ _ _ (by decide) _ ((unhide HL).1.alloc _)).mono ?_
    rintro e w2 ⟨y, rfl, y0, y1, y2, hl⟩
    have y3 : y < 4 := by omega
    have pk := pick4_kept hl.2 hlt y0 y3
    have HL2 := hide (((unhide HL).alloc _).trans hl)
    clear hl HL y2
    go_wp2
    go_ret
    exact ⟨_, rfl, pick4_in _ (wrap_in _) (wrap_in _) (by unfold In; decide) (by unfold In; decide), unhide HL2⟩
set_option maxHeartbeats 1000000 in
theorem small_c (b : Nat) (a : Option Addr) (len cap : Nat) (w : World) (h : Rdr w b a len cap) : Calls Tryd.prog 16 #[.pointer (some ⟨b, 0, none⟩)] w fun e w' => ∃ l g : Int, e = .returned (.agg #[.int .i64 l, .int .i64 g]) ∧ In l ∧ In g ∧ l ≤ g ∧ Left b a len cap w w' := by
  have R := hide h
  have hb := h.lt
  have hne : w.heap.size ≠ b := by omega
  have HC := hide h.2.1.lt
  clear h
  go_enter Tryd.func16, Tryd.ntmps16
  go_wp2_with fail
  have hr0 : Left b a len cap w (w.alloc (Obj.cells #[.int .i64 0, .int .i64 0] 25)) := (Left.refl (unhide R)).alloc _
  have hn0 := heap_alloc_new w (Obj.cells #[.int .i64 0, .int .i64 0] 25)
  have hz0 : w.heap.size < (w.alloc (Obj.cells #[.int .i64 0, .int .i64 0] 25)).heap.size := by simp
  generalize w.alloc (Obj.cells #[.int .i64 0, .int .i64 0] 25) = w0 at hr0 hn0 hz0 ⊢
  have HR0 := hide hr0
  have HN0 := hide hn0
  clear hr0 hn0 R
  refine (once_c _ _ _ _ _ (by decide) (by decide) _ (unhide HR0).1).mono ?_
  rintro e w1 ⟨r, rfl, hl⟩
  have HR1 := hide ((unhide HR0).trans hl)
  have HN1 := hide ((hl.2.block _ hz0 hne).trans (unhide HN0))
  have hz1 : w.heap.size < w1.heap.size := Nat.lt_of_lt_of_le hz0 hl.2.size
  clear hl HR0 HN0 hz0
  cases r
  · go_wp2_with fail
    refine (below_c _ _ _ _ _ (by decide) _ (unhide HR1).1).mono ?_
    rintro e w2 ⟨x, rfl, x0, x1, x2, hl⟩
    have HR2 := hide ((unhide HR1).trans hl)
    have HN2 := hide ((hl.2.block _ hz1 hne).trans (unhide HN1))
    have hz2 : w.heap.size < w2.heap.size := Nat.lt_of_lt_of_le hz1 hl.2.size
    clear hl HR1 HN1 hz1
    have x3 : x ≤ 19 := by omega
    clear x1 x2
    go_wp2_with fail
    refine (below_c _ _ _ _ _ (by decide) _ (unhide HR2).1).mono ?_
    rintro e w3 ⟨y, rfl, y0, y1, y2, hl⟩
    have HR3 := hide ((unhide HR2).trans hl)
    have HN3 := hide ((hl.2.block _ hz2 hne).trans (unhide HN2))
    clear hl HR2 HN2 hz2
    have y3 : y ≤ 8 := by omega
    clear y1 y2
    have q1 : wrap64 (x - 8) = x - 8 := w64 _ (by unfold In; omega)
    have q2 : wrap64 (x - 8 + y) = x - 8 + y := w64 _ (by unfold In; omega)
    have c0 : w3.cell? ⟨w.heap.size, 0, none⟩ = some (.int .i64 0) := cell_ob (unhide HN3)
    have c1 : w3.cell? ⟨w.heap.size, 1, none⟩ = some (.int .i64 0) := cell_ob (unhide HN3)
    have f0 : w3.frozen? ⟨w.heap.size, 0, none⟩ = false := frozen_ob (unhide HN3)
    have f1 : w3.frozen? ⟨w.heap.size, 1, none⟩ = false := frozen_ob (unhide HN3)
    go_wp2
    exact bodyPost_ret (v := .agg #[.int .i64 (x - 8), .int .i64 (x - 8 + y)]) (by simp [results, Tryd.results16, go_sem, c0, c1]) rfl ⟨x - 8, x - 8 + y, rfl, by unfold In; omega, by unfold In; omega, by omega, ((unhide HR3).set (Nat.le_refl _) hb (unhide HC) _).set (Nat.le_refl _) hb (unhide HC) _⟩
  · go_wp2_with fail
    refine (iv_c _ _ _ _ _ (unhide HR1).1).mono ?_
    rintro e w2 ⟨x, y, rfl, xin, yin, hl⟩
    have HR2 := hide ((unhide HR1).trans hl)
    have HN2 := hide ((hl.2.block _ hz1 hne).trans (unhide HN1))
    have hz2 : w.heap.size < w2.heap.size := Nat.lt_of_lt_of_le hz1 hl.2.size
    have XI := hide (And.intro xin yin)
    clear hl HR1 HN1 hz1 xin yin
    have q1 := hmn x y
    have q2 := hmx x y
    have c0 : w2.cell? ⟨w.heap.size, 0, none⟩ = some (.int .i64 0) := cell_ob (unhide HN2)
    have c1 : w2.cell? ⟨w.heap.size, 1, none⟩ = some (.int .i64 0) := cell_ob (unhide HN2)
    have f0 : w2.frozen? ⟨w.heap.size, 0, none⟩ = false := frozen_ob (unhide HN2)
    have f1 : w2.frozen? ⟨w.heap.size, 1, none⟩ = false := frozen_ob (unhide HN2)
    have ha := fun o k j (h : k < w2.heap.size) => alloc_cell (w := w2) (o := o) (k := k) (j := j) h
    have hf := fun o k j (h : k < w2.heap.size) => alloc_frozen (w := w2) (o := o) (k := k) (j := j) h
    go_wp2
    exact bodyPost_ret (v := .agg #[.int .i64 (mn x y), .int .i64 (mx x y)]) (by simp [results, Tryd.results16, go_sem, c0, c1, ha, hz2]) rfl ⟨mn x y, mx x y, rfl, mn_in (unhide XI).1 (unhide XI).2, mx_in (unhide XI).1 (unhide XI).2, by rw [mn_eq, mx_eq]; omega, (((unhide HR2).set (Nat.le_refl _) hb (unhide HC) _).set (Nat.le_refl _) hb (unhide HC) _).alloc _⟩
/-- Two pairs of noughts lie side by side, which may be written. -/
def Two0 (b : Nat) (w : World) : Prop := w.heap[b]? = some (.cells #[.int .i64 0, .int .i64 0] 25 (0, 0)) ∧ w.heap[b + 1]? = some (.cells #[.int .i64 0, .int .i64 0] 25 (0, 0)) ∧ b + 1 < w.heap.size
theorem Two0.kp {b B : Nat} {w w' : World} (h : Two0 b w) (k : Kp B w w') (hB : b + 1 < B) : Two0 b w' :=
  ⟨(k.block b (by have := h.2.2; omega) (by omega)).trans h.1, (k.block (b + 1) h.2.2 (by omega)).trans h.2.1, Nat.lt_of_lt_of_le h.2.2 k.size⟩
set_option maxHeartbeats 1000000 in
theorem DrawIvCompare_c (a : Option Addr) (len cap : Nat) (w : World) (h : Code w a len) : Calls Tryd.prog 6 #[.slice a len cap] w fun e w' => ∃ op l g l' g' : Int, e = .returned (.tuple #[.int .i64 op, .agg #[.int .i64 l, .int .i64 g], .agg #[.int .i64 l', .int .i64 g']]) ∧ In op ∧ In l ∧ In g ∧ In l' ∧ In g' ∧ Below w.heap.size w w' := by
  have H0 := hide h
  clear h
  go_enter Tryd.func6, Tryd.ntmps6
  go_wp2_with fail
  refine (open_c _ _ _ _).mono ?_
  rintro e w1 ⟨rfl, hw1⟩
  have HL1 : Hid (Left (w.heap.size + 1 + 1) a len cap ((w.alloc (Obj.cells #[.int .i64 0, .int .i64 0] 25)).alloc (Obj.cells #[.int .i64 0, .int .i64 0] 25)) w1) := by rw [hw1]; have := open_rdr a len cap _ (((unhide H0).alloc (Obj.cells #[.int .i64 0, .int .i64 0] 25)).alloc (Obj.cells #[.int .i64 0, .int .i64 0] 25)); simpa [Hid] using this
  have HT1 : Hid (Two0 w.heap.size w1) := by
    rw [hw1]
    refine ⟨?_, ?_, by simp⟩
    · rw [Below.heap_alloc _ _ _ (by simp; omega), Below.heap_alloc _ _ _ (by simp)]; exact heap_alloc_new w _
    · rw [Below.heap_alloc _ _ _ (by simp)]; have := heap_alloc_new (w.alloc (Obj.cells #[.int .i64 0, .int .i64 0] 25)) (Obj.cells #[.int .i64 0, .int .i64 0] 25); simpa using this
  have K0 : Hid (Below w.heap.size w ((w.alloc (Obj.cells #[.int .i64 0, .int .i64 0] 25)).alloc (Obj.cells #[.int .i64 0, .int .i64 0] 25))) := ((Below.refl _ _).alloc (Nat.le_refl _) _).alloc (by simp) _
  have hBe : ((w.alloc (Obj.cells #[.int .i64 0, .int .i64 0] 25)).alloc (Obj.cells #[.int .i64 0, .int .i64 0] 25)).heap.size = w.heap.size + 2 := by simp
  generalize ((w.alloc (Obj.cells #[.int .i64 0, .int .i64 0] 25)).alloc (Obj.cells #[.int .i64 0, .int .i64 0] 25)) = W0 at *
  clear hw1 H0
  go_wp2_with fail
  refine (below_c _ _ _ _ _ (by decide) _ (unhide HL1).1).mono ?_
  rintro e w2 ⟨r, rfl, r0, r1, r2, hl⟩
  have HL2 := hide ((unhide HL1).trans hl)
  have HT2 := hide ((unhide HT1).kp hl.2 (by omega))
  have r3 : r ≤ 5 := by omega
  have q1 : wrap64 (13 + r) = 13 + r := w64 _ (by unfold In; omega)
  clear hl HL1 HT1 r1 r2
  go_wp2_with fail
  refine (once_c _ _ _ _ _ (by decide) (by decide) _ (unhide HL2).1).mono ?_
  rintro e w3 ⟨q, rfl, hl⟩
  have HL3 := hide ((unhide HL2).trans hl)
  have HT3 := hide ((unhide HT2).kp hl.2 (by omega))
  clear hl HL2 HT2 
  cases q
  · go_wp2_with fail
    refine (once_c _ _ _ _ _ (by decide) (by decide) _ (unhide HL3).1).mono ?_
    rintro e w4 ⟨s, rfl, hl⟩
    have HL4 := hide ((unhide HL3).trans hl)
    have HT4 := hide ((unhide HT3).kp hl.2 (by omega))
    clear hl HL3 HT3 
    cases s
    · go_wp2_with fail
      refine (iv_c _ _ _ _ _ (unhide HL4).1).mono ?_
      rintro e w5 ⟨x, y, rfl, hx, hy, hl⟩
      have HL5 := hide ((unhide HL4).trans hl)
      have HT5 := hide ((unhide HT4).kp hl.2 (by omega))
      have X1 := hide (And.intro hx hy)
      clear hl HL4 HT4 hx hy
      go_wp2_with fail
      refine (iv_c _ _ _ _ _ (unhide HL5).1).mono ?_
      rintro e w6 ⟨x', y', rfl, hx, hy, hl⟩
      have HL6 := hide ((unhide HL5).trans hl)
      have HT6 := hide ((unhide HT5).kp hl.2 (by omega))
      have X2 := hide (And.intro hx hy)
      clear hl HL5 HT5 hx hy
      have b0 : w6.cell? ⟨w.heap.size, 0, none⟩ = some (.int .i64 0) := cell_ob (unhide HT6).1
      have b1 : w6.cell? ⟨w.heap.size, 1, none⟩ = some (.int .i64 0) := cell_ob (unhide HT6).1
      have b2 : w6.cell? ⟨w.heap.size + 1, 0, none⟩ = some (.int .i64 0) := cell_ob (unhide HT6).2.1
      have b3 : w6.cell? ⟨w.heap.size + 1, 1, none⟩ = some (.int .i64 0) := cell_ob (unhide HT6).2.1
      have f0 : w6.frozen? ⟨w.heap.size, 0, none⟩ = false := frozen_ob (unhide HT6).1
      have f1 : w6.frozen? ⟨w.heap.size, 1, none⟩ = false := frozen_ob (unhide HT6).1
      have f2 : w6.frozen? ⟨w.heap.size + 1, 0, none⟩ = false := frozen_ob (unhide HT6).2.1
      have f3 : w6.frozen? ⟨w.heap.size + 1, 1, none⟩ = false := frozen_ob (unhide HT6).2.1
      go_wp2
      exact bodyPost_ret (v := .tuple #[.int .i64 (13 + r), .agg #[.int .i64 x, .int .i64 y], .agg #[.int .i64 x', .int .i64 y']]) (by simp [results, Tryd.results6, go_sem, b0, b1, b2, b3]) rfl ⟨(13 + r), x, y, x', y', rfl, by unfold In; omega, (unhide X1).1, (unhide X1).2, (unhide X2).1, (unhide X2).2, (((((unhide K0).trans ((unhide HL6).2.below (by omega) (by omega))).setCell (by simp) _).setCell (by simp) _).setCell (by simp) _).setCell (by simp) _⟩
    · go_wp2_with fail
      refine (small_c _ _ _ _ _ (unhide HL4).1).mono ?_
      rintro e w5 ⟨x, y, rfl, hx, hy, _, hl⟩
      have HL5 := hide ((unhide HL4).trans hl)
      have HT5 := hide ((unhide HT4).kp hl.2 (by omega))
      have X1 := hide (And.intro hx hy)
      clear hl HL4 HT4 hx hy
      go_wp2_with fail
      refine (small_c _ _ _ _ _ (unhide HL5).1).mono ?_
      rintro e w6 ⟨x', y', rfl, hx, hy, _, hl⟩
      have HL6 := hide ((unhide HL5).trans hl)
      have HT6 := hide ((unhide HT5).kp hl.2 (by omega))
      have X2 := hide (And.intro hx hy)
      clear hl HL5 HT5 hx hy
      have b0 : w6.cell? ⟨w.heap.size, 0, none⟩ = some (.int .i64 0) := cell_ob (unhide HT6).1
      have b1 : w6.cell? ⟨w.heap.size, 1, none⟩ = some (.int .i64 0) := cell_ob (unhide HT6).1
      have b2 : w6.cell? ⟨w.heap.size + 1, 0, none⟩ = some (.int .i64 0) := cell_ob (unhide HT6).2.1
      have b3 : w6.cell? ⟨w.heap.size + 1, 1, none⟩ = some (.int .i64 0) := cell_ob (unhide HT6).2.1
      have f0 : w6.frozen? ⟨w.heap.size, 0, none⟩ = false := frozen_ob (unhide HT6).1
      have f1 : w6.frozen? ⟨w.heap.size, 1, none⟩ = false := frozen_ob (unhide HT6).1
      have f2 : w6.frozen? ⟨w.heap.size + 1, 0, none⟩ = false := frozen_ob (unhide HT6).2.1
      have f3 : w6.frozen? ⟨w.heap.size + 1, 1, none⟩ = false := frozen_ob (unhide HT6).2.1
      go_wp2
      exact bodyPost_ret (v := .tuple #[.int .i64 (13 + r), .agg #[.int .i64 x, .int .i64 y], .agg #[.int .i64 x', .int .i64 y']]) (by simp [results, Tryd.results6, go_sem, b0, b1, b2, b3]) rfl ⟨(13 + r), x, y, x', y', rfl, by unfold In; omega, (unhide X1).1, (unhide X1).2, (unhide X2).1, (unhide X2).2, (((((unhide K0).trans ((unhide HL6).2.below (by omega) (by omega))).setCell (by simp) _).setCell (by simp) _).setCell (by simp) _).setCell (by simp) _⟩
  · go_wp2_with fail
    refine (off_c _ _ _ _ _ _ (by unfold In; decide) (by unfold In; decide) (by decide) _ (unhide HL3).1).mono ?_
    rintro e w4 ⟨n, rfl, nin, hl⟩
    have HL4 := hide ((unhide HL3).trans hl)
    have HT4 := hide ((unhide HT3).kp hl.2 (by omega))
    have NI := hide nin
    clear hl HL3 HT3 nin
    go_wp2_with fail
    refine (once_c _ _ _ _ _ (by decide) (by decide) _ (unhide HL4).1).mono ?_
    rintro e w5 ⟨s, rfl, hl⟩
    have HL5 := hide ((unhide HL4).trans hl)
    have HT5 := hide ((unhide HT4).kp hl.2 (by omega))
    clear hl HL4 HT4 
    cases s
    · go_wp2_with fail
      refine (iv_c _ _ _ _ _ (unhide HL5).1).mono ?_
      rintro e w6 ⟨x, y, rfl, hx, hy, hl⟩
      have HL6 := hide ((unhide HL5).trans hl)
      have HT6 := hide ((unhide HT5).kp hl.2 (by omega))
      have X1 := hide (And.intro hx hy)
      clear hl HL5 HT5 hx hy
      go_wp2_with fail
      refine (iv_c _ _ _ _ _ (unhide HL6).1).mono ?_
      rintro e w7 ⟨x', y', rfl, hx, hy, hl⟩
      have HL7 := hide ((unhide HL6).trans hl)
      have HT7 := hide ((unhide HT6).kp hl.2 (by omega))
      have X2 := hide (And.intro hx hy)
      clear hl HL6 HT6 hx hy
      have b0 : w7.cell? ⟨w.heap.size, 0, none⟩ = some (.int .i64 0) := cell_ob (unhide HT7).1
      have b1 : w7.cell? ⟨w.heap.size, 1, none⟩ = some (.int .i64 0) := cell_ob (unhide HT7).1
      have b2 : w7.cell? ⟨w.heap.size + 1, 0, none⟩ = some (.int .i64 0) := cell_ob (unhide HT7).2.1
      have b3 : w7.cell? ⟨w.heap.size + 1, 1, none⟩ = some (.int .i64 0) := cell_ob (unhide HT7).2.1
      have f0 : w7.frozen? ⟨w.heap.size, 0, none⟩ = false := frozen_ob (unhide HT7).1
      have f1 : w7.frozen? ⟨w.heap.size, 1, none⟩ = false := frozen_ob (unhide HT7).1
      have f2 : w7.frozen? ⟨w.heap.size + 1, 0, none⟩ = false := frozen_ob (unhide HT7).2.1
      have f3 : w7.frozen? ⟨w.heap.size + 1, 1, none⟩ = false := frozen_ob (unhide HT7).2.1
      go_wp2
      exact bodyPost_ret (v := .tuple #[.int .i64 n, .agg #[.int .i64 x, .int .i64 y], .agg #[.int .i64 x', .int .i64 y']]) (by simp [results, Tryd.results6, go_sem, b0, b1, b2, b3]) rfl ⟨n, x, y, x', y', rfl, unhide NI, (unhide X1).1, (unhide X1).2, (unhide X2).1, (unhide X2).2, (((((unhide K0).trans ((unhide HL7).2.below (by omega) (by omega))).setCell (by simp) _).setCell (by simp) _).setCell (by simp) _).setCell (by simp) _⟩
    · go_wp2_with fail
      refine (small_c _ _ _ _ _ (unhide HL5).1).mono ?_
      rintro e w6 ⟨x, y, rfl, hx, hy, _, hl⟩
      have HL6 := hide ((unhide HL5).trans hl)
      have HT6 := hide ((unhide HT5).kp hl.2 (by omega))
      have X1 := hide (And.intro hx hy)
      clear hl HL5 HT5 hx hy
      go_wp2_with fail
      refine (small_c _ _ _ _ _ (unhide HL6).1).mono ?_
      rintro e w7 ⟨x', y', rfl, hx, hy, _, hl⟩
      have HL7 := hide ((unhide HL6).trans hl)
      have HT7 := hide ((unhide HT6).kp hl.2 (by omega))
      have X2 := hide (And.intro hx hy)
      clear hl HL6 HT6 hx hy
      have b0 : w7.cell? ⟨w.heap.size, 0, none⟩ = some (.int .i64 0) := cell_ob (unhide HT7).1
      have b1 : w7.cell? ⟨w.heap.size, 1, none⟩ = some (.int .i64 0) := cell_ob (unhide HT7).1
      have b2 : w7.cell? ⟨w.heap.size + 1, 0, none⟩ = some (.int .i64 0) := cell_ob (unhide HT7).2.1
      have b3 : w7.cell? ⟨w.heap.size + 1, 1, none⟩ = some (.int .i64 0) := cell_ob (unhide HT7).2.1
      have f0 : w7.frozen? ⟨w.heap.size, 0, none⟩ = false := frozen_ob (unhide HT7).1
      have f1 : w7.frozen? ⟨w.heap.size, 1, none⟩ = false := frozen_ob (unhide HT7).1
      have f2 : w7.frozen? ⟨w.heap.size + 1, 0, none⟩ = false := frozen_ob (unhide HT7).2.1
      have f3 : w7.frozen? ⟨w.heap.size + 1, 1, none⟩ = false := frozen_ob (unhide HT7).2.1
      go_wp2
      exact bodyPost_ret (v := .tuple #[.int .i64 n, .agg #[.int .i64 x, .int .i64 y], .agg #[.int .i64 x', .int .i64 y']]) (by simp [results, Tryd.results6, go_sem, b0, b1, b2, b3]) rfl ⟨n, x, y, x', y', rfl, unhide NI, (unhide X1).1, (unhide X1).2, (unhide X2).1, (unhide X2).2, (((((unhide K0).trans ((unhide HL7).2.below (by omega) (by omega))).setCell (by simp) _).setCell (by simp) _).setCell (by simp) _).setCell (by simp) _⟩
end Go.Proofs.YtlgjbfkhajphdaaDoor
