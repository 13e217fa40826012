/- Texts that go together: IvR, SmaA. -/
import Derived.Test.YtpdnnpnclgcpoaaDoorReZ
import Derived.Test.YtpdnnpnclgcpoaaDoorIvX
import Derived.Deep.DeepCutAuto
/- What is drawn of intervals: their ends fit. -/
namespace Go.Proofs.YtpdnnpnclgcpoaaDoor
open Go.RowKit Go.Iv
set_option linter.unusedSimpArgs false

theorem Kp.cell {b : Nat} {w w' : World} (k : Kp b w w') {c o : Nat} (hc : c < w.heap.size) (hne : c ≠ b) : w'.cell? ⟨c, o, none⟩ = w.cell? ⟨c, o, none⟩ := World.cell?_of_block (w := w) (k.block c hc hne)
theorem Kp.frozen {b : Nat} {w w' : World} (k : Kp b w w') {c o : Nat} (hc : c < w.heap.size) (hne : c ≠ b) : w'.frozen? ⟨c, o, none⟩ = w.frozen? ⟨c, o, none⟩ := World.frozen?_of_block (w := w) (k.block c hc hne)
theorem Kp.setCell' {b c o : Nat} {u v : World} (h : Kp b u v) (hc : u.heap.size ≤ c) (x : Value) : Kp b u (v.setCell ⟨c, o, none⟩ x) :=
  ⟨h.os, h.tape, h.output, by simpa [World.setCell] using h.size, fun k hk hb => (Below.heap_setCell _ _ _ _ (by show k ≠ c; omega)).trans (h.block k hk hb)⟩
theorem Left.set {b c o len cap : Nat} {a : Option Addr} {u w : World} (h : Left b a len cap u w) (hc : u.heap.size ≤ c) (hb : b < u.heap.size) (hcode : ∀ x, a = some x → 0 < len → x.block < u.heap.size) (v : Value) : Left b a len cap u (w.setCell ⟨c, o, none⟩ v) := by
  refine ⟨?_, h.2.setCell' hc v⟩
  refine h.1.kept (b' := c) ⟨rfl, rfl, rfl, by simp [World.setCell], fun k _ hk => Below.heap_setCell _ _ _ _ (by exact hk)⟩ (by omega) (fun x hx hl => by have := hcode x hx hl; omega)
theorem Code.lt {w : World} {a : Option Addr} {len : Nat} (h : Code w a len) : ∀ x, a = some x → 0 < len → x.block < w.heap.size := by
  intro x hx hl
  rcases h.2 with h0 | ⟨cb, co, ha, hc⟩
  · omega
  · obtain ⟨z, hz, _⟩ := hc 0 hl
    have hlt := World.block_lt_of_cell? w _ hz
    rw [ha] at hx
    simp at hx
    subst hx
    exact hlt

theorem cell_ob {w : World} {b o : Nat} {cs : Array Value} {t : TypeId} {fz : Nat × Nat} (hb : w.heap[b]? = some (.cells cs t fz)) : w.cell? ⟨b, o, none⟩ = cs[o]? := by
  unfold World.cell?; rw [hb]; rfl
theorem frozen_ob {w : World} {b o : Nat} {cs : Array Value} {t : TypeId} (hb : w.heap[b]? = some (.cells cs t (0, 0))) : w.frozen? ⟨b, o, none⟩ = false := by
  simp [World.frozen?, hb]

set_option maxHeartbeats 1000000 in
theorem iv_c (b : Nat) (a : Option Addr) (len cap : Nat) (w : World) (h : Rdr w b a len cap) : Calls Tryd.prog 127 #[.pointer (some ⟨b, 0, none⟩)] w fun e w' => ∃ l g : Int, e = .returned (.agg #[.int .i64 l, .int .i64 g]) ∧ In l ∧ In g ∧ Left b a len cap w w' := by
  have R := hide h
  have hb := h.lt
  have hne : w.heap.size ≠ b := by omega
  have HC := hide h.2.1.lt
  clear h
  go_enter Tryd.func127, Tryd.ntmps127
  go_wp2_with fail
  have hr0 : Left b a len cap w (w.alloc (Obj.cells #[.int .i64 0, .int .i64 0] 81)) := (Left.refl (unhide R)).alloc _
  have hn0 := heap_alloc_new w (Obj.cells #[.int .i64 0, .int .i64 0] 81)
  have hz0 : w.heap.size < (w.alloc (Obj.cells #[.int .i64 0, .int .i64 0] 81)).heap.size := by simp
  generalize w.alloc (Obj.cells #[.int .i64 0, .int .i64 0] 81) = w0 at hr0 hn0 hz0 ⊢
  have HR0 := hide hr0
  have HN0 := hide hn0
  clear hr0 hn0 R
  refine (num_c _ _ _ _ _ (unhide HR0).1).mono ?_
  rintro e w1 ⟨x, rfl, xin, hl⟩
  have XI := hide xin
  have HR1 := hide ((unhide HR0).trans hl)
  have HN1 := hide ((hl.2.block _ hz0 hne).trans (unhide HN0))
  have hz1 : w.heap.size < w1.heap.size := Nat.lt_of_lt_of_le hz0 hl.2.size
  clear hl xin HR0 HN0 hz0
  go_wp2_with fail
  refine (below_c _ _ _ _ _ (by decide) _ (unhide HR1).1).mono ?_
  rintro e w2 ⟨r, rfl, r0, r1, r2, hl⟩
  have HR2 := hide ((unhide HR1).trans hl)
  have HN2 := hide ((hl.2.block _ hz1 hne).trans (unhide HN1))
  have hz2 : w.heap.size < w2.heap.size := Nat.lt_of_lt_of_le hz1 hl.2.size
  clear hl HR1 HN1 hz1 r2
  -- PARTS
  by_cases e0 : r = 0
  · have e0' : (r == 0) = true := by simpa using e0
    clear e0
    go_wp2_with fail
    refine (num_c _ _ _ _ _ (unhide HR2).1).mono ?_
    rintro e w3 ⟨y, rfl, yin, hl⟩
    have YI := hide yin
    have HR3 := hide ((unhide HR2).trans hl)
    have HN3 := hide ((hl.2.block _ hz2 hne).trans (unhide HN2))
    have hz3 : w.heap.size < w3.heap.size := Nat.lt_of_lt_of_le hz2 hl.2.size
    clear hl yin HR2 HN2 hz2
    by_cases hyx : y < x
    · go_wp2_with fail
      refine (once_c _ _ _ _ _ (by decide) (by decide) _ (unhide HR3).1).mono ?_
      rintro e w9 ⟨q, rfl, hl⟩
      have HR9 := hide ((unhide HR3).trans hl)
      have HN9 := hide ((hl.2.block _ hz3 hne).trans (unhide HN3))
      clear hl
      cases q
      · have c0 : w9.cell? ⟨w.heap.size, 0, none⟩ = some (.int .i64 0) := cell_ob (unhide HN9)
        have c1 : w9.cell? ⟨w.heap.size, 1, none⟩ = some (.int .i64 0) := cell_ob (unhide HN9)
        have f0 : w9.frozen? ⟨w.heap.size, 0, none⟩ = false := frozen_ob (unhide HN9)
        have f1 : w9.frozen? ⟨w.heap.size, 1, none⟩ = false := frozen_ob (unhide HN9)
        go_wp2
        exact bodyPost_ret (v := .agg #[.int .i64 y, .int .i64 x]) (by simp [results, Tryd.results127, go_sem, c0, c1]) rfl ⟨y, x, rfl, unhide YI, unhide XI, ((unhide HR9).set (Nat.le_refl _) hb (unhide HC) _).set (Nat.le_refl _) hb (unhide HC) _⟩
      · have c0 : w9.cell? ⟨w.heap.size, 0, none⟩ = some (.int .i64 0) := cell_ob (unhide HN9)
        have c1 : w9.cell? ⟨w.heap.size, 1, none⟩ = some (.int .i64 0) := cell_ob (unhide HN9)
        have f0 : w9.frozen? ⟨w.heap.size, 0, none⟩ = false := frozen_ob (unhide HN9)
        have f1 : w9.frozen? ⟨w.heap.size, 1, none⟩ = false := frozen_ob (unhide HN9)
        go_wp2
        exact bodyPost_ret (v := .agg #[.int .i64 x, .int .i64 y]) (by simp [results, Tryd.results127, go_sem, c0, c1]) rfl ⟨x, y, rfl, unhide XI, unhide YI, ((unhide HR9).set (Nat.le_refl _) hb (unhide HC) _).set (Nat.le_refl _) hb (unhide HC) _⟩
    · have c0 : w3.cell? ⟨w.heap.size, 0, none⟩ = some (.int .i64 0) := cell_ob (unhide HN3)
      have c1 : w3.cell? ⟨w.heap.size, 1, none⟩ = some (.int .i64 0) := cell_ob (unhide HN3)
      have f0 : w3.frozen? ⟨w.heap.size, 0, none⟩ = false := frozen_ob (unhide HN3)
      have f1 : w3.frozen? ⟨w.heap.size, 1, none⟩ = false := frozen_ob (unhide HN3)
      go_wp2
      exact bodyPost_ret (v := .agg #[.int .i64 x, .int .i64 y]) (by simp [results, Tryd.results127, go_sem, c0, c1]) rfl ⟨x, y, rfl, unhide XI, unhide YI, ((unhide HR3).set (Nat.le_refl _) hb (unhide HC) _).set (Nat.le_refl _) hb (unhide HC) _⟩
  have e0' : (r == 0) = false := by simpa using e0
  by_cases e1 : r = 1 ∨ r = 2
  · have hch : ((r == 1) = true) ∨ ((r == 1) = false ∧ (r == 2) = true) := by
      rcases e1 with rfl | rfl
      · exact .inl rfl
      · exact .inr ⟨rfl, rfl⟩
    clear e0 e1
    rcases hch with e1' | ⟨e1', e2'⟩
    all_goals
      go_wp2_with fail
      refine (below_c _ _ _ _ _ (by decide) _ (unhide HR2).1).mono ?_
      rintro e w3 ⟨d, rfl, d0, d1, d2, hl⟩
      have HR3 := hide ((unhide HR2).trans hl)
      have HN3 := hide ((hl.2.block _ hz2 hne).trans (unhide HN2))
      have hz3 : w.heap.size < w3.heap.size := Nat.lt_of_lt_of_le hz2 hl.2.size
      clear hl HR2 HN2 hz2 d2
      go_wp2_with fail
      refine (sNumAdd_c _ _ (unhide XI) (by unfold In; omega) _).mono ?_
      rintro e w4 ⟨rfl, rfl⟩
      have YI := hide (clN_in (x + d))
      generalize clN (x + d) = y at *
      by_cases hyx : y < x
      · have hxx : ¬ x < x := by omega
        have c0 : w4.cell? ⟨w.heap.size, 0, none⟩ = some (.int .i64 0) := cell_ob (unhide HN3)
        have c1 : w4.cell? ⟨w.heap.size, 1, none⟩ = some (.int .i64 0) := cell_ob (unhide HN3)
        have f0 : w4.frozen? ⟨w.heap.size, 0, none⟩ = false := frozen_ob (unhide HN3)
        have f1 : w4.frozen? ⟨w.heap.size, 1, none⟩ = false := frozen_ob (unhide HN3)
        go_wp2
        exact bodyPost_ret (v := .agg #[.int .i64 x, .int .i64 x]) (by simp [results, Tryd.results127, go_sem, c0, c1]) rfl ⟨x, x, rfl, unhide XI, unhide XI, ((unhide HR3).set (Nat.le_refl _) hb (unhide HC) _).set (Nat.le_refl _) hb (unhide HC) _⟩
      · have c0 : w4.cell? ⟨w.heap.size, 0, none⟩ = some (.int .i64 0) := cell_ob (unhide HN3)
        have c1 : w4.cell? ⟨w.heap.size, 1, none⟩ = some (.int .i64 0) := cell_ob (unhide HN3)
        have f0 : w4.frozen? ⟨w.heap.size, 0, none⟩ = false := frozen_ob (unhide HN3)
        have f1 : w4.frozen? ⟨w.heap.size, 1, none⟩ = false := frozen_ob (unhide HN3)
        go_wp2
        exact bodyPost_ret (v := .agg #[.int .i64 x, .int .i64 y]) (by simp [results, Tryd.results127, go_sem, c0, c1]) rfl ⟨x, y, rfl, unhide XI, unhide YI, ((unhide HR3).set (Nat.le_refl _) hb (unhide HC) _).set (Nat.le_refl _) hb (unhide HC) _⟩
  have e1' : (r == 1) = false := by simp; omega
  have e2' : (r == 2) = false := by simp; omega
  clear e0 e1
  have hxx : ¬ x < x := by omega
  have c0 : w2.cell? ⟨w.heap.size, 0, none⟩ = some (.int .i64 0) := cell_ob (unhide HN2)
  have c1 : w2.cell? ⟨w.heap.size, 1, none⟩ = some (.int .i64 0) := cell_ob (unhide HN2)
  have f0 : w2.frozen? ⟨w.heap.size, 0, none⟩ = false := frozen_ob (unhide HN2)
  have f1 : w2.frozen? ⟨w.heap.size, 1, none⟩ = false := frozen_ob (unhide HN2)
  go_wp2
  exact bodyPost_ret (v := .agg #[.int .i64 x, .int .i64 x]) (by simp [results, Tryd.results127, go_sem, c0, c1]) rfl ⟨x, x, rfl, unhide XI, unhide XI, ((unhide HR2).set (Nat.le_refl _) hb (unhide HC) _).set (Nat.le_refl _) hb (unhide HC) _⟩
end Go.Proofs.YtpdnnpnclgcpoaaDoor

/- Small intervals, from a code. -/
namespace Go.Proofs.YtpdnnpnclgcpoaaDoor
open Go.RowKit Go.Iv
set_option linter.unusedSimpArgs false
set_option linter.unusedVariables false

set_option maxRecDepth 20000 in
set_option maxHeartbeats 4000000 in
theorem small_c (b : Nat) (a : Option Addr) (len cap : Nat) (w : World) (h : Rdr w b a len cap) : Calls Tryd.prog 101 #[.pointer (some ⟨b, 0, none⟩)] w fun e w' => ∃ l g : Int, e = .returned (.agg #[.int .i64 l, .int .i64 g]) ∧ In l ∧ In g ∧ Left b a len cap w w' := by
  have R := hide h
  have hb := h.lt
  have hne : w.heap.size ≠ b := by omega
  have HC := hide h.2.1.lt
  clear h
  go_enter Tryd.func101, Tryd.ntmps101
  go_wp2_with fail
  have hr0 : Left b a len cap w (w.alloc (Obj.cells #[.int .i64 0, .int .i64 0] 81)) := (Left.refl (unhide R)).alloc _
  have hn0 := heap_alloc_new w (Obj.cells #[.int .i64 0, .int .i64 0] 81)
  have hz0 : w.heap.size < (w.alloc (Obj.cells #[.int .i64 0, .int .i64 0] 81)).heap.size := by simp
  generalize w.alloc (Obj.cells #[.int .i64 0, .int .i64 0] 81) = w0 at hr0 hn0 hz0 ⊢
  have HR0 := hide hr0
  have HN0 := hide hn0
  clear hr0 hn0 R
  refine (once_c _ _ _ _ _ (by decide) (by decide) _ (unhide HR0).1).mono ?_
  rintro e w1 ⟨q, rfl, hl⟩
  have HR1 := hide ((unhide HR0).trans hl)
  have HN1 := hide ((hl.2.block _ hz0 hne).trans (unhide HN0))
  have hz1 : w.heap.size < w1.heap.size := Nat.lt_of_lt_of_le hz0 hl.2.size
  clear hl HR0 HN0 hz0
  cases q
  · go_wp2_with fail
    refine (below_c _ _ _ _ _ (by decide) _ (unhide HR1).1).mono ?_
    rintro e w2 ⟨r, rfl, r0, r1, r2, hl⟩
    have HR2 := hide ((unhide HR1).trans hl)
    have HN2 := hide ((hl.2.block _ hz1 hne).trans (unhide HN1))
    have hz2 : w.heap.size < w2.heap.size := Nat.lt_of_lt_of_le hz1 hl.2.size
    have k1 : wrap64 (r - 8) = r - 8 := by unfold wrap64; omega
    clear hl HR1 HN1 r2
    go_wp2_with fail
    refine (below_c _ _ _ _ _ (by decide) _ (unhide HR2).1).mono ?_
    rintro e w3 ⟨z, rfl, z0, z1, z2, hl⟩
    have HR3 := hide ((unhide HR2).trans hl)
    have HN3 := hide ((hl.2.block _ hz2 hne).trans (unhide HN2))
    have k2 : wrap64 (r - 8 + z) = r - 8 + z := by unfold wrap64; omega
    have XI := hide (show In (r - 8) by unfold In; omega)
    have YI := hide (show In (r - 8 + z) by unfold In; omega)
    have c0 : w3.cell? ⟨w.heap.size, 0, none⟩ = some (.int .i64 0) := cell_ob (unhide HN3)
    have c1 : w3.cell? ⟨w.heap.size, 1, none⟩ = some (.int .i64 0) := cell_ob (unhide HN3)
    have f0 : w3.frozen? ⟨w.heap.size, 0, none⟩ = false := frozen_ob (unhide HN3)
    have f1 : w3.frozen? ⟨w.heap.size, 1, none⟩ = false := frozen_ob (unhide HN3)
    clear hl HR2 HN2 z2
    go_wp2
    exact bodyPost_ret (v := .agg #[.int .i64 (r - 8), .int .i64 (r - 8 + z)]) (by simp [results, Tryd.results101, go_sem, c0, c1]) rfl ⟨r - 8, r - 8 + z, rfl, unhide XI, unhide YI, ((unhide HR3).set (Nat.le_refl _) hb (unhide HC) _).set (Nat.le_refl _) hb (unhide HC) _⟩
  · go_wp2_with fail
    refine (iv_c _ _ _ _ _ (unhide HR1).1).mono ?_
    rintro e w2 ⟨l, g, rfl, lin, gin, hl⟩
    have HR2 := hide ((unhide HR1).trans hl)
    have HN2 := hide ((hl.2.block _ hz1 hne).trans (unhide HN1))
    have hz2 : w.heap.size < w2.heap.size := Nat.lt_of_lt_of_le hz1 hl.2.size
    have XI := hide lin
    have YI := hide gin
    clear hl HR1 HN1 lin gin
    have c0 : w2.cell? ⟨w.heap.size, 0, none⟩ = some (.int .i64 0) := cell_ob (unhide HN2)
    have c1 : w2.cell? ⟨w.heap.size, 1, none⟩ = some (.int .i64 0) := cell_ob (unhide HN2)
    have f0 : w2.frozen? ⟨w.heap.size, 0, none⟩ = false := frozen_ob (unhide HN2)
    have f1 : w2.frozen? ⟨w.heap.size, 1, none⟩ = false := frozen_ob (unhide HN2)
    clear HN2
    by_cases hgl : g < l
    · have hlg : ¬ l < g := by omega
      go_wp2
      exact bodyPost_ret (v := .agg #[.int .i64 g, .int .i64 l]) (by simp [results, Tryd.results101, go_sem, c0, c1, hz2]) rfl ⟨g, l, rfl, unhide YI, unhide XI, (((unhide HR2).set (Nat.le_refl _) hb (unhide HC) _).set (Nat.le_refl _) hb (unhide HC) _).alloc _⟩
    · have hgl2 : l ≤ g := by omega
      by_cases hlg : l < g
      · go_wp2
        exact bodyPost_ret (v := .agg #[.int .i64 l, .int .i64 g]) (by simp [results, Tryd.results101, go_sem, c0, c1, hz2]) rfl ⟨l, g, rfl, unhide XI, unhide YI, (((unhide HR2).set (Nat.le_refl _) hb (unhide HC) _).set (Nat.le_refl _) hb (unhide HC) _).alloc _⟩
      · obtain rfl : l = g := by omega
        go_wp2
        exact bodyPost_ret (v := .agg #[.int .i64 l, .int .i64 l]) (by simp [results, Tryd.results101, go_sem, c0, c1, hz2]) rfl ⟨l, l, rfl, unhide XI, unhide XI, (((unhide HR2).set (Nat.le_refl _) hb (unhide HC) _).set (Nat.le_refl _) hb (unhide HC) _).alloc _⟩
end Go.Proofs.YtpdnnpnclgcpoaaDoor

