/- What is drawn for the law of meets. -/
import Derived.Test.YtgccgpdbapemcaaIvT
import Derived.Test.YtgccgpdbapemcaaPairsC
import Derived.Deep.RegionHeld3
namespace Go.Proofs.Ytgccgpdbapemcaa
open Go.RowKit Go.Iv
set_option linter.unusedSimpArgs false

theorem P1.set {w0 w : World} {M b0 c o : Nat} {x0 y0 : Int} (h : P1 w0 M b0 x0 y0 w) (hne : c ≠ b0) (hm : M ≤ c) (v : Value) : P1 w0 M b0 x0 y0 (w.setCell ⟨c, o, none⟩ v) := by
  obtain ⟨p, q, k⟩ := h
  obtain ⟨e, f, g⟩ := unhide k
  have hs : (w.setCell ⟨c, o, none⟩ v).heap.size = w.heap.size := by simp [World.setCell]
  exact ⟨(World.cell?_setCell_far w ⟨c, o, none⟩ ⟨b0, 0, none⟩ v hne).trans p, (World.cell?_setCell_far w ⟨c, o, none⟩ ⟨b0, 1, none⟩ v hne).trans q, e.setCell hm v, by omega, by omega⟩
theorem near_ok {l g : Int} (hl : In l) (hg : In g) : IntKind.i64.wrap (IntKind.i64.wrap (g.tdiv 2) + IntKind.i64.wrap (l.tdiv 2)) - l < 18446744073709551615 := by
  have h1 : ∀ x : Int, x.tdiv 2 = x / 2 + if 0 ≤ x ∨ (2 : Int) ∣ x then 0 else 1 := fun x => by have := Int.tdiv_eq_ediv (a := x) (b := 2); simpa [show Int.sign 2 = 1 from rfl] using this
  rw [h1 g, h1 l, IntKind.wrap_i64, IntKind.wrap_i64, IntKind.wrap_i64]
  unfold In at *
  split <;> split <;> omega
set_option maxHeartbeats 1000000 in
theorem DrawIvHas_c (a : Option Addr) (len cap : Nat) (w : World) (h : Code w a len) : Calls Try.prog 23 #[.slice a len cap] w fun e w' => ∃ l g n : Int, e = .returned (.tuple #[.agg #[.int .i64 l, .int .i64 g], .int .i64 n]) ∧ In l ∧ In g ∧ In n ∧ Below w.heap.size w w' := by
  have H0 := hide h
  clear h
  go_enter Try.func23, Try.ntmps23
  go_wp2_with fail
  refine (open_c _ _ _ _).mono ?_
  rintro e w1 ⟨rfl, hw1⟩
  have KU : Below w.heap.size w (w.alloc (Obj.cells #[.int .i64 0, .int .i64 0] 25)) := (Below.refl _ _).alloc (Nat.le_refl _) _
  have su : (w.alloc (Obj.cells #[.int .i64 0, .int .i64 0] 25)).heap.size = w.heap.size + 1 := by simp
  have n0 := heap_alloc_new w (Obj.cells #[.int .i64 0, .int .i64 0] 25)
  have hc : Code (w.alloc (Obj.cells #[.int .i64 0, .int .i64 0] 25)) a len := (unhide H0).alloc _
  generalize w.alloc (Obj.cells #[.int .i64 0, .int .i64 0] 25) = U at *
  have hl1 : Left (w.heap.size + 1) a len cap U w1 := by rw [hw1, ← su]; exact open_rdr _ _ _ _ hc
  have HL1 := hide hl1
  have HU := hide (show Below w.heap.size w U ∧ U.heap.size = w.heap.size + 1 ∧ U.heap[w.heap.size]? = some (Obj.cells #[.int .i64 0, .int .i64 0] 25) from ⟨KU, su, n0⟩)
  rw [su]
  clear hw1 H0 KU su n0 hc hl1
  generalize hB : w.heap.size = B at *
  have HB := hide hB
  clear hB
  go_wp2_with fail
  refine (iv_c _ _ _ _ _ (unhide HL1).1).mono ?_
  rintro e w2 ⟨l, g, rfl, lin, gin, hl⟩
  have HL2 := hide ((unhide HL1).trans hl)
  have XI := hide lin
  have YI := hide gin
  clear hl lin gin
  go_wp2_with fail
  have hl3 : Left (B + 1) a len cap U (w2.alloc (Obj.cells #[.int .i64 l, .int .i64 g] 25)) := (unhide HL2).alloc _
  have na := heap_alloc_new w2 (Obj.cells #[.int .i64 l, .int .i64 g] 25)
  have hz : w2.heap.size < (w2.alloc (Obj.cells #[.int .i64 l, .int .i64 g] 25)).heap.size := by simp
  have hA : B + 1 < w2.heap.size := (unhide HL2).1.lt
  generalize w2.alloc (Obj.cells #[.int .i64 l, .int .i64 g] 25) = w3 at *
  generalize w2.heap.size = A at *
  clear HL2 HL1
  refine (once_c _ _ _ _ _ (by decide) (by decide) _ hl3.1).mono ?_
  rintro e w4 ⟨q, rfl, hl⟩
  have HL4 := hide (hl3.trans hl)
  have NA4 := hide ((hl.2.block _ hz (by omega)).trans na)
  have hz4 : A < w4.heap.size := Nat.lt_of_lt_of_le hz hl.2.size
  clear hl hl3 na hz
  have cA0 : w4.cell? ⟨A, 0, none⟩ = some (.int .i64 l) := cell_ob (unhide NA4)
  have cA1 : w4.cell? ⟨A, 1, none⟩ = some (.int .i64 g) := cell_ob (unhide NA4)
  cases q
  · go_wp2_with fail
    refine (sIvOk_c _ _ _).mono ?_
    rintro e w5 ⟨rfl, hb⟩
    have NA5 := hide ((hb.block A hz4).trans (unhide NA4))
    have HL5 := hide ((unhide HL4).call hb)
    have hz5 : A < w5.heap.size := Nat.lt_of_lt_of_le hz4 hb.size
    clear hb cA0 cA1
    have cA0 : w5.cell? ⟨A, 0, none⟩ = some (.int .i64 l) := cell_ob (unhide NA5)
    have cA1 : w5.cell? ⟨A, 1, none⟩ = some (.int .i64 g) := cell_ob (unhide NA5)
    by_cases hlg : l ≤ g
    · have e1 : okB l g = true := decide_eq_true hlg
      have HLG := hide hlg
      clear hlg
      go_wp2_with fail
      have q5 : P1 w B A l g w5 := ⟨cA0, cA1, (unhide HU).1.trans ((unhide HL5).2.below (show B ≤ B + 1 by omega) (by have := (unhide HU).2.1; omega)), by omega, by omega⟩
      refine wp_region_held_drew (S := P1 w B A l g) (by kernel_rfl) (P1.drew q5) (fun hHeld => ?_)
      refine wpAnyH_take (i := 0) (oi := { dst := some 20, op := Op.load 25 (Operand.tmp 5), type := 25, pos := "l02_intervals.go:216", after := #[], guard := none }) (v := ?_) rfl (by kernel_rfl) (by kernel_rfl) (by kernel_rfl) (fun _ _ _ h => h) (Or.inl ⟨by rfl, ?_⟩) (by assumption) ?_
      rotate_left
      · (intro w hSw; (try dsimp only at hSw); go_simp; try with_reducible rfl)
      try simp only [Act.put, List.setIfInBounds_toArray, List.set_cons_zero, List.set_cons_succ]
      refine wpAnyH_take (i := 1) (oi := { dst := some 21, op := Op.move (Operand.tmp 4), type := 53, pos := "l02_intervals.go:216", after := #[], guard := none }) (v := ?_) rfl (by kernel_rfl) (by kernel_rfl) (by kernel_rfl) (fun _ _ _ h => h) (Or.inl ⟨by rfl, ?_⟩) (by assumption) ?_
      rotate_left
      · (intro w hSw; (try dsimp only at hSw); go_simp; try with_reducible rfl)
      try simp only [Act.put, List.setIfInBounds_toArray, List.set_cons_zero, List.set_cons_succ]
      refine wpAnyH_take (i := 2) (oi := { dst := some 22, op := Op.fieldAddr 25 (Operand.tmp 5) 0, type := 0, pos := "l02_intervals.go:216", after := #[], guard := none }) (v := ?_) rfl (by kernel_rfl) (by kernel_rfl) (by kernel_rfl) (fun _ _ _ h => h) (Or.inl ⟨by rfl, ?_⟩) (by assumption) ?_
      rotate_left
      · (intro w hSw; (try dsimp only at hSw); go_simp; try with_reducible rfl)
      try simp only [Act.put, List.setIfInBounds_toArray, List.set_cons_zero, List.set_cons_succ]
      refine wpAnyH_take (i := 3) (oi := { dst := some 23, op := Op.load 2 (Operand.tmp 22), type := 2, pos := "l02_intervals.go:216", after := #[{ on := 2, ground := Ground.data }], guard := none }) (v := ?_) rfl (by kernel_rfl) (by kernel_rfl) (by kernel_rfl) (fun _ _ _ h => h) (Or.inl ⟨by rfl, ?_⟩) (by assumption) ?_
      rotate_left
      · (intro w hSw; (try dsimp only at hSw); go_simp; try with_reducible rfl)
      try simp only [Act.put, List.setIfInBounds_toArray, List.set_cons_zero, List.set_cons_succ]
      refine wpAnyH_take (i := 4) (oi := { dst := some 24, op := Op.fieldAddr 25 (Operand.tmp 5) 1, type := 0, pos := "l02_intervals.go:216", after := #[], guard := none }) (v := ?_) rfl (by kernel_rfl) (by kernel_rfl) (by kernel_rfl) (fun _ _ _ h => h) (Or.inl ⟨by rfl, ?_⟩) (by assumption) ?_
      rotate_left
      · (intro w hSw; (try dsimp only at hSw); go_simp; try with_reducible rfl)
      try simp only [Act.put, List.setIfInBounds_toArray, List.set_cons_zero, List.set_cons_succ]
      refine wpAnyH_take (i := 5) (oi := { dst := some 25, op := Op.load 2 (Operand.tmp 24), type := 2, pos := "l02_intervals.go:216", after := #[{ on := 4, ground := Ground.data }], guard := none }) (v := ?_) rfl (by kernel_rfl) (by kernel_rfl) (by kernel_rfl) (fun _ _ _ h => h) (Or.inl ⟨by rfl, ?_⟩) (by assumption) ?_
      rotate_left
      · (intro w hSw; (try dsimp only at hSw); go_simp; try with_reducible rfl)
      try simp only [Act.put, List.setIfInBounds_toArray, List.set_cons_zero, List.set_cons_succ]
      refine wpAnyH_take (i := 6) (oi := { dst := some 26, op := Op.binOp BinOp.quo 2 (Operand.tmp 25) (Operand.const (Value.int IntKind.i64 2)) 2, type := 2, pos := "l02_intervals.go:216", after := #[{ on := 5, ground := Ground.data }], guard := none }) (v := ?_) rfl (by kernel_rfl) (by kernel_rfl) (by kernel_rfl) (fun _ _ _ h => h) (Or.inl ⟨by rfl, ?_⟩) (by assumption) ?_
      rotate_left
      · (intro w hSw; (try dsimp only at hSw); go_simp; try with_reducible rfl)
      try simp only [Act.put, List.setIfInBounds_toArray, List.set_cons_zero, List.set_cons_succ]
      refine wpAnyH_take (i := 7) (oi := { dst := some 27, op := Op.fieldAddr 25 (Operand.tmp 5) 0, type := 0, pos := "l02_intervals.go:216", after := #[], guard := none }) (v := ?_) rfl (by kernel_rfl) (by kernel_rfl) (by kernel_rfl) (fun _ _ _ h => h) (Or.inl ⟨by rfl, ?_⟩) (by assumption) ?_
      rotate_left
      · (intro w hSw; (try dsimp only at hSw); go_simp; try with_reducible rfl)
      try simp only [Act.put, List.setIfInBounds_toArray, List.set_cons_zero, List.set_cons_succ]
      refine wpAnyH_take (i := 8) (oi := { dst := some 28, op := Op.load 2 (Operand.tmp 27), type := 2, pos := "l02_intervals.go:216", after := #[{ on := 7, ground := Ground.data }], guard := none }) (v := ?_) rfl (by kernel_rfl) (by kernel_rfl) (by kernel_rfl) (fun _ _ _ h => h) (Or.inl ⟨by rfl, ?_⟩) (by assumption) ?_
      rotate_left
      · (intro w hSw; (try dsimp only at hSw); go_simp; try with_reducible rfl)
      try simp only [Act.put, List.setIfInBounds_toArray, List.set_cons_zero, List.set_cons_succ]
      refine wpAnyH_take (i := 9) (oi := { dst := some 29, op := Op.binOp BinOp.quo 2 (Operand.tmp 28) (Operand.const (Value.int IntKind.i64 2)) 2, type := 2, pos := "l02_intervals.go:216", after := #[{ on := 8, ground := Ground.data }], guard := none }) (v := ?_) rfl (by kernel_rfl) (by kernel_rfl) (by kernel_rfl) (fun _ _ _ h => h) (Or.inl ⟨by rfl, ?_⟩) (by assumption) ?_
      rotate_left
      · (intro w hSw; (try dsimp only at hSw); go_simp; try with_reducible rfl)
      try simp only [Act.put, List.setIfInBounds_toArray, List.set_cons_zero, List.set_cons_succ]
      refine wpAnyH_take (i := 10) (oi := { dst := some 30, op := Op.binOp BinOp.add 2 (Operand.tmp 26) (Operand.tmp 29) 2, type := 2, pos := "l02_intervals.go:216", after := #[{ on := 6, ground := Ground.data }, { on := 9, ground := Ground.data }], guard := none }) (v := ?_) rfl (by kernel_rfl) (by kernel_rfl) (by kernel_rfl) (fun _ _ _ h => h) (Or.inl ⟨by rfl, ?_⟩) (by assumption) ?_
      rotate_left
      · (intro w hSw; (try dsimp only at hSw); go_simp; try with_reducible rfl)
      try simp only [Act.put, List.setIfInBounds_toArray, List.set_cons_zero, List.set_cons_succ]
      refine wpAnyH_ready (rs := [11]) (by kernel_rfl) (by simp) ?_
      refine AllReadyH.cons (i := 11) (o := { dst := some 31, op := Op.call { callee := Callee.value (Operand.func 44), args := #[Operand.tmp 21, Operand.tmp 23, Operand.tmp 30], argTypes := #[53, 2, 2] }, type := 2, pos := "l02_intervals.go:216", after := #[{ on := 1, ground := Ground.data }, { on := 3, ground := Ground.data }, { on := 10, ground := Ground.data }], guard := none }) rfl (fun K hK => ?_) AllReadyH.nil
      go_simp
      refine (near_c _ _ _ _ l (IntKind.i64.wrap (IntKind.i64.wrap (g.tdiv 2) + IntKind.i64.wrap (l.tdiv 2))) (unhide XI) (iwrap_in _) (near_ok (unhide XI) (unhide YI)) _ (by exact (unhide HL5).1)).mono ?_
      rintro e w6 ⟨n, rfl, nin, hl⟩
      have NI := hide nin
      have kp := hl.2.undrew
      have HL6 := hide ((unhide HL5).trans ⟨hl.1, kp⟩)
      have NA := hide ((kp.block _ hz5 (by omega)).trans (unhide NA5))
      have hz6 : A < w6.heap.size := Nat.lt_of_lt_of_le hz5 kp.size
      clear hl nin kp
      have nb := ((unhide HL6).2.block B (by have := (unhide HU).2.1; omega) (by omega)).trans (unhide HU).2.2
      have b0 : w6.cell? ⟨B, 0, none⟩ = some (.int .i64 0) := cell_ob nb
      have b1 : w6.cell? ⟨B, 1, none⟩ = some (.int .i64 0) := cell_ob nb
      have f0 : w6.frozen? ⟨B, 0, none⟩ = false := frozen_ob nb
      have f1 : w6.frozen? ⟨B, 1, none⟩ = false := frozen_ob nb
      have KW := hide (((unhide HU).1.trans ((unhide HL6).2.below (show B ≤ B + 1 by omega) (by have := (unhide HU).2.1; omega))))
      have q6 : P1 w B A l g w6 := ⟨cell_ob (unhide NA), cell_ob (unhide NA), unhide KW, by omega, by omega⟩
      clear nb
      refine hK.out _ _ (q6) (fun hHeld => ?_)
      clear hK K
      try simp only [Act.put, List.setIfInBounds_toArray, List.set_cons_zero, List.set_cons_succ]
      refine wpAnyH_ready (rs := [12]) (by kernel_rfl) (by simp) ?_
      refine AllReadyH.cons (i := 12) (o := { dst := none, op := Op.store 25 (Operand.tmp 2) (Operand.tmp 20), type := 0, pos := "l02_intervals.go:216", after := #[{ on := 0, ground := Ground.data }, { on := 11, ground := Ground.chain }, { on := 0, ground := Ground.phase }, { on := 1, ground := Ground.textOnly Departure.lateStores }, { on := 2, ground := Ground.textOnly Departure.lateStores }, { on := 3, ground := Ground.textOnly Departure.lateStores }, { on := 4, ground := Ground.textOnly Departure.lateStores }, { on := 5, ground := Ground.textOnly Departure.lateStores }, { on := 6, ground := Ground.textOnly Departure.lateStores }, { on := 7, ground := Ground.textOnly Departure.lateStores }, { on := 8, ground := Ground.textOnly Departure.lateStores }, { on := 9, ground := Ground.textOnly Departure.lateStores }, { on := 10, ground := Ground.textOnly Departure.lateStores }, { on := 11, ground := Ground.textOnly Departure.lateStoresUnsure }], guard := none }) rfl (fun K hK => ?_) AllReadyH.nil
      go_simp
      refine hK.out _ _ (P1.set (P1.set q6 (by omega) (by omega) _) (by omega) (by omega) _) (fun hHeld => ?_)
      clear hK K
      try simp only [Act.put, List.setIfInBounds_toArray, List.set_cons_zero, List.set_cons_succ]
      refine wpAnyH_take (i := 13) (oi := { dst := some 3, op := Op.assign (Operand.tmp 31), type := 2, pos := "l02_intervals.go:216", after := #[{ on := 11, ground := Ground.data }, { on := 12, ground := Ground.chain }, { on := 0, ground := Ground.phase }, { on := 1, ground := Ground.phase }, { on := 2, ground := Ground.phase }, { on := 3, ground := Ground.phase }, { on := 4, ground := Ground.phase }, { on := 5, ground := Ground.phase }, { on := 6, ground := Ground.phase }, { on := 7, ground := Ground.phase }, { on := 8, ground := Ground.phase }, { on := 9, ground := Ground.phase }, { on := 10, ground := Ground.phase }, { on := 11, ground := Ground.phase }, { on := 12, ground := Ground.phase }], guard := none }) (v := ?_) rfl (by kernel_rfl) (by kernel_rfl) (by kernel_rfl) (fun _ _ _ h => h) (Or.inl ⟨by rfl, ?_⟩) (by assumption) ?_
      rotate_left
      · (intro w hSw; (try dsimp only at hSw); go_simp; try with_reducible rfl)
      try simp only [Act.put, List.setIfInBounds_toArray, List.set_cons_zero, List.set_cons_succ]
      refine wpAnyH_done (by kernel_rfl) ?_ _
      go_wp2_with fail
      exact bodyPost_ret (v := .tuple #[.agg #[.int .i64 l, .int .i64 g], .int .i64 n]) (by simp [results, Try.results23, go_sem, b0, b1]) rfl ⟨l, g, n, rfl, unhide XI, unhide YI, unhide NI, by rw [unhide HB]; exact ((unhide KW).setCell (by simp) _).setCell (by simp) _⟩
    · have e1 : okB l g = false := decide_eq_false hlg
      clear hlg
      go_wp2_with fail
      go_region_with (go_at_call 43; refine (num_c _ _ _ _ _ (by exact (unhide HL5).1)).mono ?_; rintro e w6 ⟨n, rfl, nin, hl⟩; have NI := hide nin; have kp := hl.2.undrew; have HL6 := hide ((unhide HL5).trans ⟨hl.1, kp⟩); have NA := hide ((kp.block _ hz5 (by omega)).trans (unhide NA5)); clear hl nin kp; have nb := ((unhide HL6).2.block B (by have := (unhide HU).2.1; omega) (by omega)).trans (unhide HU).2.2; have dA0 : w6.cell? ⟨A, 0, none⟩ = some (.int .i64 l) := cell_ob (unhide NA); have dA1 : w6.cell? ⟨A, 1, none⟩ = some (.int .i64 g) := cell_ob (unhide NA); have b0 : w6.cell? ⟨B, 0, none⟩ = some (.int .i64 0) := cell_ob nb; have b1 : w6.cell? ⟨B, 1, none⟩ = some (.int .i64 0) := cell_ob nb; have f0 : w6.frozen? ⟨B, 0, none⟩ = false := frozen_ob nb; have f1 : w6.frozen? ⟨B, 1, none⟩ = false := frozen_ob nb; have K := hide (((unhide HU).1.trans ((unhide HL6).2.below (show B ≤ B + 1 by omega) (by have := (unhide HU).2.1; omega)))); clear nb)
      all_goals go_wp2_with fail
      all_goals exact bodyPost_ret (v := .tuple #[.agg #[.int .i64 l, .int .i64 g], .int .i64 n]) (by simp [results, Try.results23, go_sem, b0, b1]) rfl ⟨l, g, n, rfl, unhide XI, unhide YI, unhide NI, by rw [unhide HB]; exact ((unhide K).setCell (by simp) _).setCell (by simp) _⟩
  · go_wp2_with fail
    go_region_with (go_at_call 43; refine (num_c _ _ _ _ _ (by exact (unhide HL4).1)).mono ?_; rintro e w6 ⟨n, rfl, nin, hl⟩; have NI := hide nin; have kp := hl.2.undrew; have HL6 := hide ((unhide HL4).trans ⟨hl.1, kp⟩); have NA := hide ((kp.block _ hz4 (by omega)).trans (unhide NA4)); clear hl nin kp; have nb := ((unhide HL6).2.block B (by have := (unhide HU).2.1; omega) (by omega)).trans (unhide HU).2.2; have dA0 : w6.cell? ⟨A, 0, none⟩ = some (.int .i64 l) := cell_ob (unhide NA); have dA1 : w6.cell? ⟨A, 1, none⟩ = some (.int .i64 g) := cell_ob (unhide NA); have b0 : w6.cell? ⟨B, 0, none⟩ = some (.int .i64 0) := cell_ob nb; have b1 : w6.cell? ⟨B, 1, none⟩ = some (.int .i64 0) := cell_ob nb; have f0 : w6.frozen? ⟨B, 0, none⟩ = false := frozen_ob nb; have f1 : w6.frozen? ⟨B, 1, none⟩ = false := frozen_ob nb; have K := hide (((unhide HU).1.trans ((unhide HL6).2.below (show B ≤ B + 1 by omega) (by have := (unhide HU).2.1; omega)))); clear nb)
    all_goals go_wp2_with fail
    all_goals exact bodyPost_ret (v := .tuple #[.agg #[.int .i64 l, .int .i64 g], .int .i64 n]) (by simp [results, Try.results23, go_sem, b0, b1]) rfl ⟨l, g, n, rfl, unhide XI, unhide YI, unhide NI, by rw [unhide HB]; exact ((unhide K).setCell (by simp) _).setCell (by simp) _⟩
end Go.Proofs.Ytgccgpdbapemcaa
