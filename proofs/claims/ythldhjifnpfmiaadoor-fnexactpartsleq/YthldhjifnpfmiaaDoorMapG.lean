/- Parts within parts, as the specification and the program tell it. -/
import Derived.Test.YthldhjifnpfmiaaDoorMapF
import Derived.Test.YthldhjifnpfmiaaDoorMapZ
import Derived.Test.YthldhjifnpfmiaaDoorParF
import Derived.Test.YthldhjifnpfmiaaDoorParG
namespace Go.Proofs.YthldhjifnpfmiaaDoor
open Go.RowKit Go.Maps
set_option linter.unusedSimpArgs false
set_option linter.unusedVariables false

theorem AtP.tabs {w : World} {g i : Nat} {e : PR} (h : AtP w g i e) : ∃ g1 g2, w.cell? ⟨g, i * 2, none⟩ = some (.slice (some ⟨g1, 0, none⟩) e.1.length e.1.length) ∧ w.cell? ⟨g, i * 2 + 1, none⟩ = some (.slice (some ⟨g2, 0, none⟩) e.2.length e.2.length) ∧ OwnV w g1 e.1 ∧ OwnE w g2 e.2 := by
  obtain ⟨g1, g2, _, _, h1, h2, h3, h4⟩ := h
  exact ⟨g1, g2, h1, h2, h3, h4⟩
theorem inP_some {vs fs : List ByteArray} {rs : List (ByteArray × Int)} {ps : List PR} (h : partsB vs fs rs ps = true) (p : PR) {i : Nat} (hi : i < ps.length) (e : ps[i].1 = p.1) : inP ps p = leqRs p.2 ps[i].2 := by
  unfold inP
  rw [posT_is h hi e]
  simp only [getD_at ps i hi]
theorem inP_none {ps : List PR} (p : PR) (h : ∀ i, (hi : i < ps.length) → ps[i].1 ≠ p.1) : inP ps p = false := by
  unfold inP
  rw [posT_no h]
set_option maxRecDepth 20000 in
set_option maxHeartbeats 4000000 in
theorem l9Leq_c (vs fs : List ByteArray) (rs : List (ByteArray × Int)) (b1 d1 : Nat) (ps : List PR) (b2 d2 : Nat) (pt : List PR) (w : World) (h1 : OwnP w b1 ps) (h2 : OwnP w b2 pt) (t1 : partsB vs fs rs ps = true) (t2 : partsB vs fs rs pt = true) :
    Calls Tryd.prog 16 #[.slice (some ⟨b1, 0, none⟩) ps.length d1, .slice (some ⟨b2, 0, none⟩) pt.length d2] w fun e w' => e = .returned (.bool (leqP ps pt)) ∧ Below w.heap.size w w' := by
  have hl := h1.1
  obtain ⟨r, hr⟩ : ∃ r, r = leqP ps pt := ⟨_, rfl⟩
  rw [← hr]
  have HR := hide hr
  have HP1 := hide h1
  have HP2 := hide h2
  have HT1 := hide t1
  have HT2 := hide t2
  obtain ⟨L, hL⟩ : ∃ L, L = ps.length := ⟨_, rfl⟩
  have HL := hide hL
  rw [← hL]
  rw [← hL] at hl
  have hl' : (L : Int) ≤ 1048576 := by omega
  obtain ⟨M, hM⟩ : ∃ M, M = pt.length := ⟨_, rfl⟩
  have HM := hide hM
  rw [← hM]
  have hm' : (M : Int) ≤ 1048576 := by have := h2.1; omega
  clear h1 h2 hr t1 t2 hL hM
  go_enter Tryd.func16, Tryd.ntmps16
  go_wp2_with fail
  go_loopw [5] (fun i wr => ∃ k : Nat, k ≤ L ∧ i = .int .i64 k ∧ (∀ j, (h1 : j < ps.length) → j < k → inP pt ps[j] = true) ∧ Below w.heap.size w wr) (fun i _ => L - (intOf i).toNat)
  case atStart => exact ⟨0, Nat.zero_le _, rfl, fun j _ h0 => by omega, Below.refl _ _⟩
  case round =>
    obtain ⟨k, hk, rfl, ha, hb⟩ := hrel
    have HA := hide ha
    have HB := hide hb
    clear ha hb
    by_cases hlt : k < L
    · have hk' : k < ps.length := by rw [← unhide HL]; exact hlt
      obtain ⟨g1, g2, c1, c2, i1, i2⟩ := (((unhide HP1).call (unhide HB)).2.1 k hk').tabs
      have I1 := hide i1
      have I2 := hide i2
      have Q2 := hide c2
      have TO := hide (parts_at (unhide HT1) k hk').1
      have TA := hide (parts_at (unhide HT1) k hk').2.1
      have PS := hide (show ps[k] = (ps[k].1, ps[k].2) from rfl)
      clear i1 i2 c2
      generalize ps[k].1 = t at c1 I1 TO PS
      generalize ps[k].2 = es at I2 Q2 TA PS
      go_wp2_with fail
      have kf := l9Find_c (some ⟨b2, 0, none⟩) (some ⟨g1, 0, none⟩) d2 t.length pt t wr ((unhide HP2).call (unhide HB)).parts (unhide I1).1 (fun i hi => (parts_at (unhide HT2) i hi).1) (unhide TO)
      rw [← unhide HM] at kf
      refine kf.mono ?_
      clear kf
      rintro e V1 ⟨n, rfl, hn, kb⟩
      have I2 := hide ((unhide I2).call kb)
      have Q2 := hide ((kb.cell (World.block_lt_of_cell? wr _ (unhide Q2))).trans (unhide Q2))
      have HB := hide ((unhide HB).trans (kb.mono (unhide HB).size))
      clear kb c1
      rcases hn with ⟨rfl, hno⟩ | ⟨i, hi, rfl, hi2⟩
      · have E := hide (show inP pt ps[k] = false from inP_none _ (by rw [unhide PS]; exact hno))
        have E : Hid (r = false) := by unfold Hid; rw [unhide HR]; exact leqP_bad k hk' (unhide E)
        clear hno
        go_upto_region 5 with fail
        refine wp_region_held_drew (S := (fun u => Below V1.heap.size V1 u)) (by kernel_rfl) ((Below.refl _ _).drew) (fun hHeld => ?_)
        refine wpAnyH_take (i := 0) (oi := ⟨some 20, Op.move (Operand.tmp 6), 3, _, _, none⟩) (v := ?_) rfl (by kernel_rfl) (by kernel_rfl) (by kernel_rfl) (fun _ _ _ h => h) (Or.inl ⟨by rfl, ?_⟩) (by assumption) ?_
        rotate_left
        · (intro w hSw; (try dsimp only at hSw); go_simp; try with_reducible rfl)
        try simp only [Act.put, List.setIfInBounds_toArray, List.set_cons_zero, List.set_cons_succ]
        refine wpAnyH_take (i := 1) (oi := ⟨some 21, Op.binOp BinOp.lss 3 (Operand.tmp 20) (Operand.const (Value.int IntKind.i64 0)) 3, 4, _, _, none⟩) (v := ?_) rfl (by kernel_rfl) (by kernel_rfl) (by kernel_rfl) (fun _ _ _ h => h) (Or.inl ⟨by rfl, ?_⟩) (by assumption) ?_
        rotate_left
        · (intro w hSw; (try dsimp only at hSw); go_simp; try with_reducible rfl)
        try simp only [Act.put, List.setIfInBounds_toArray, List.set_cons_zero, List.set_cons_succ]
        refine wpAnyH_take (i := 2) (oi := ⟨some 22, Op.move (Operand.tmp 21), 4, _, _, none⟩) (v := ?_) rfl (by kernel_rfl) (by kernel_rfl) (by kernel_rfl) (fun _ _ _ h => h) (Or.inl ⟨by rfl, ?_⟩) (by assumption) ?_
        rotate_left
        · (intro w hSw; (try dsimp only at hSw); go_simp; try with_reducible rfl)
        try simp only [Act.put, List.setIfInBounds_toArray, List.set_cons_zero, List.set_cons_succ]
        refine wpAnyH_take (i := 3) (oi := ⟨some 23, Op.move (Operand.tmp 0), 34, _, _, some (2, false)⟩) (v := undef) rfl (by kernel_rfl) (by kernel_rfl) (by kernel_rfl) (fun _ _ _ h => h) (Or.inr ⟨by rfl, rfl⟩) (by assumption) ?_
        try simp only [Act.put, List.setIfInBounds_toArray, List.set_cons_zero, List.set_cons_succ]
        refine wpAnyH_take (i := 4) (oi := ⟨some 24, Op.move (Operand.tmp 5), 3, _, _, some (2, false)⟩) (v := undef) rfl (by kernel_rfl) (by kernel_rfl) (by kernel_rfl) (fun _ _ _ h => h) (Or.inr ⟨by rfl, rfl⟩) (by assumption) ?_
        try simp only [Act.put, List.setIfInBounds_toArray, List.set_cons_zero, List.set_cons_succ]
        refine wpAnyH_take (i := 5) (oi := ⟨some 25, Op.indexAddr 34 (Operand.tmp 23) (Operand.tmp 24), 0, _, _, some (2, false)⟩) (v := undef) rfl (by kernel_rfl) (by kernel_rfl) (by kernel_rfl) (fun _ _ _ h => h) (Or.inr ⟨by rfl, rfl⟩) (by assumption) ?_
        try simp only [Act.put, List.setIfInBounds_toArray, List.set_cons_zero, List.set_cons_succ]
        refine wpAnyH_take (i := 6) (oi := ⟨some 26, Op.fieldAddr 52 (Operand.tmp 25) 1, 0, _, _, some (2, false)⟩) (v := undef) rfl (by kernel_rfl) (by kernel_rfl) (by kernel_rfl) (fun _ _ _ h => h) (Or.inr ⟨by rfl, rfl⟩) (by assumption) ?_
        try simp only [Act.put, List.setIfInBounds_toArray, List.set_cons_zero, List.set_cons_succ]
        refine wpAnyH_take (i := 7) (oi := ⟨some 27, Op.load 50 (Operand.tmp 26), 50, _, _, some (2, false)⟩) (v := undef) rfl (by kernel_rfl) (by kernel_rfl) (by kernel_rfl) (fun _ _ _ h => h) (Or.inr ⟨by rfl, rfl⟩) (by assumption) ?_
        try simp only [Act.put, List.setIfInBounds_toArray, List.set_cons_zero, List.set_cons_succ]
        refine wpAnyH_take (i := 8) (oi := ⟨some 28, Op.move (Operand.tmp 1), 34, _, _, some (2, false)⟩) (v := undef) rfl (by kernel_rfl) (by kernel_rfl) (by kernel_rfl) (fun _ _ _ h => h) (Or.inr ⟨by rfl, rfl⟩) (by assumption) ?_
        try simp only [Act.put, List.setIfInBounds_toArray, List.set_cons_zero, List.set_cons_succ]
        refine wpAnyH_take (i := 9) (oi := ⟨some 29, Op.move (Operand.tmp 6), 3, _, _, some (2, false)⟩) (v := undef) rfl (by kernel_rfl) (by kernel_rfl) (by kernel_rfl) (fun _ _ _ h => h) (Or.inr ⟨by rfl, rfl⟩) (by assumption) ?_
        try simp only [Act.put, List.setIfInBounds_toArray, List.set_cons_zero, List.set_cons_succ]
        refine wpAnyH_take (i := 10) (oi := ⟨some 30, Op.indexAddr 34 (Operand.tmp 28) (Operand.tmp 29), 0, _, _, some (2, false)⟩) (v := undef) rfl (by kernel_rfl) (by kernel_rfl) (by kernel_rfl) (fun _ _ _ h => h) (Or.inr ⟨by rfl, rfl⟩) (by assumption) ?_
        try simp only [Act.put, List.setIfInBounds_toArray, List.set_cons_zero, List.set_cons_succ]
        refine wpAnyH_take (i := 11) (oi := ⟨some 31, Op.fieldAddr 52 (Operand.tmp 30) 1, 0, _, _, some (2, false)⟩) (v := undef) rfl (by kernel_rfl) (by kernel_rfl) (by kernel_rfl) (fun _ _ _ h => h) (Or.inr ⟨by rfl, rfl⟩) (by assumption) ?_
        try simp only [Act.put, List.setIfInBounds_toArray, List.set_cons_zero, List.set_cons_succ]
        refine wpAnyH_take (i := 12) (oi := ⟨some 32, Op.load 50 (Operand.tmp 31), 50, _, _, some (2, false)⟩) (v := undef) rfl (by kernel_rfl) (by kernel_rfl) (by kernel_rfl) (fun _ _ _ h => h) (Or.inr ⟨by rfl, rfl⟩) (by assumption) ?_
        try simp only [Act.put, List.setIfInBounds_toArray, List.set_cons_zero, List.set_cons_succ]
        refine wpAnyH_take (i := 13) (oi := ⟨some 33, Op.call { callee := Callee.value (Operand.func 36), args := #[Operand.tmp 27, Operand.tmp 32], argTypes := #[50, 50] }, 4, _, _, some (2, false)⟩) (v := undef) rfl (by kernel_rfl) (by kernel_rfl) (by kernel_rfl) (fun _ _ _ h => h) (Or.inr ⟨by rfl, rfl⟩) (by assumption) ?_
        try simp only [Act.put, List.setIfInBounds_toArray, List.set_cons_zero, List.set_cons_succ]
        refine wpAnyH_take (i := 14) (oi := ⟨some 34, Op.unOp UnOp.not 4 (Operand.tmp 33), 4, _, _, some (2, false)⟩) (v := undef) rfl (by kernel_rfl) (by kernel_rfl) (by kernel_rfl) (fun _ _ _ h => h) (Or.inr ⟨by rfl, rfl⟩) (by assumption) ?_
        try simp only [Act.put, List.setIfInBounds_toArray, List.set_cons_zero, List.set_cons_succ]
        refine wpAnyH_take (i := 15) (oi := ⟨some 35, Op.pick (Operand.tmp 22) (Operand.const (Value.bool true)) (Operand.tmp 34), 4, _, _, none⟩) (v := ?_) rfl (by kernel_rfl) (by kernel_rfl) (by kernel_rfl) (fun _ _ _ h => h) (Or.inl ⟨by rfl, ?_⟩) (by assumption) ?_
        rotate_left
        · (intro w hSw; (try dsimp only at hSw); go_simp; try with_reducible rfl)
        try simp only [Act.put, List.setIfInBounds_toArray, List.set_cons_zero, List.set_cons_succ]
        refine wpAnyH_done (by kernel_rfl) ?_ _
        have HQ := hide hHeld
        clear hHeld
        go_wp2
        go_ret
        exact ⟨by rw [unhide E]; rfl, (unhide HB).trans ((unhide HQ).mono (unhide HB).size)⟩
      · have hiM : i < M := by rw [unhide HM]; exact hi
        have hiI : (i : Int) < (M : Int) := by omega
        have hi0 : ¬ ((i : Int) < 0) := by omega
        obtain ⟨g3, g4, _, d2', _, i4⟩ := (((unhide HP2).call (unhide HB)).2.1 i hi).tabs
        have I4 := hide i4
        have TBi := hide (parts_at (unhide HT2) i hi).2.1
        have EP := hide (show inP pt ps[k] = leqRs es pt[i].2 from by rw [unhide PS]; exact inP_some (unhide HT2) _ hi hi2)
        have Q4 := hide d2'
        clear i4 hi2 d2'
        generalize pt[i].2 = et at I4 Q4 TBi EP
        obtain ⟨q, hq⟩ : ∃ q, leqRs es et = q := ⟨_, rfl⟩
        have HLE := hide hq
        rw [hq] at EP
        clear hq
        have hh : H2 V1 ⟨b1, k * 2 + 1, none⟩ ⟨b2, i * 2 + 1, none⟩ (.slice (some ⟨g2, 0, none⟩) es.length es.length) (.slice (some ⟨g4, 0, none⟩) et.length et.length) V1 := ⟨unhide Q2, unhide Q4, Below.refl _ _⟩
        go_upto_region 5 with fail
        refine wp_region_held_drew (S := (H2 V1 ⟨b1, k * 2 + 1, none⟩ ⟨b2, i * 2 + 1, none⟩ (.slice (some ⟨g2, 0, none⟩) es.length es.length) (.slice (some ⟨g4, 0, none⟩) et.length et.length))) (by kernel_rfl) (H2.drew hh) (fun hHeld => ?_)
        refine wpAnyH_take (i := 0) (oi := ⟨some 20, Op.move (Operand.tmp 6), 3, _, _, none⟩) (v := ?_) rfl (by kernel_rfl) (by kernel_rfl) (by kernel_rfl) (fun _ _ _ h => h) (Or.inl ⟨by rfl, ?_⟩) (by assumption) ?_
        rotate_left
        · (intro w hSw; (try dsimp only at hSw); go_simp; try with_reducible rfl)
        try simp only [Act.put, List.setIfInBounds_toArray, List.set_cons_zero, List.set_cons_succ]
        refine wpAnyH_take (i := 1) (oi := ⟨some 21, Op.binOp BinOp.lss 3 (Operand.tmp 20) (Operand.const (Value.int IntKind.i64 0)) 3, 4, _, _, none⟩) (v := ?_) rfl (by kernel_rfl) (by kernel_rfl) (by kernel_rfl) (fun _ _ _ h => h) (Or.inl ⟨by rfl, ?_⟩) (by assumption) ?_
        rotate_left
        · (intro w hSw; (try dsimp only at hSw); go_simp; try with_reducible rfl)
        try simp only [Act.put, List.setIfInBounds_toArray, List.set_cons_zero, List.set_cons_succ]
        refine wpAnyH_take (i := 2) (oi := ⟨some 22, Op.move (Operand.tmp 21), 4, _, _, none⟩) (v := ?_) rfl (by kernel_rfl) (by kernel_rfl) (by kernel_rfl) (fun _ _ _ h => h) (Or.inl ⟨by rfl, ?_⟩) (by assumption) ?_
        rotate_left
        · (intro w hSw; (try dsimp only at hSw); go_simp; try with_reducible rfl)
        try simp only [Act.put, List.setIfInBounds_toArray, List.set_cons_zero, List.set_cons_succ]
        refine wpAnyH_take (i := 3) (oi := ⟨some 23, Op.move (Operand.tmp 0), 34, _, _, some (2, false)⟩) (v := ?_) rfl (by kernel_rfl) (by kernel_rfl) (by kernel_rfl) (fun _ _ _ h => h) (Or.inl ⟨by rfl, ?_⟩) (by assumption) ?_
        rotate_left
        · (intro w hSw; (try dsimp only at hSw); go_simp; try with_reducible rfl)
        try simp only [Act.put, List.setIfInBounds_toArray, List.set_cons_zero, List.set_cons_succ]
        refine wpAnyH_take (i := 4) (oi := ⟨some 24, Op.move (Operand.tmp 5), 3, _, _, some (2, false)⟩) (v := ?_) rfl (by kernel_rfl) (by kernel_rfl) (by kernel_rfl) (fun _ _ _ h => h) (Or.inl ⟨by rfl, ?_⟩) (by assumption) ?_
        rotate_left
        · (intro w hSw; (try dsimp only at hSw); go_simp; try with_reducible rfl)
        try simp only [Act.put, List.setIfInBounds_toArray, List.set_cons_zero, List.set_cons_succ]
        refine wpAnyH_take (i := 5) (oi := ⟨some 25, Op.indexAddr 34 (Operand.tmp 23) (Operand.tmp 24), 0, _, _, some (2, false)⟩) (v := ?_) rfl (by kernel_rfl) (by kernel_rfl) (by kernel_rfl) (fun _ _ _ h => h) (Or.inl ⟨by rfl, ?_⟩) (by assumption) ?_
        rotate_left
        · (intro w hSw; (try dsimp only at hSw); go_simp; try with_reducible rfl)
        try simp only [Act.put, List.setIfInBounds_toArray, List.set_cons_zero, List.set_cons_succ]
        refine wpAnyH_take (i := 6) (oi := ⟨some 26, Op.fieldAddr 52 (Operand.tmp 25) 1, 0, _, _, some (2, false)⟩) (v := ?_) rfl (by kernel_rfl) (by kernel_rfl) (by kernel_rfl) (fun _ _ _ h => h) (Or.inl ⟨by rfl, ?_⟩) (by assumption) ?_
        rotate_left
        · (intro w hSw; (try dsimp only at hSw); go_simp; try with_reducible rfl)
        try simp only [Act.put, List.setIfInBounds_toArray, List.set_cons_zero, List.set_cons_succ]
        refine wpAnyH_take (i := 7) (oi := ⟨some 27, Op.load 50 (Operand.tmp 26), 50, _, _, some (2, false)⟩) (v := ?_) rfl (by kernel_rfl) (by kernel_rfl) (by kernel_rfl) (fun _ _ _ h => h) (Or.inl ⟨by rfl, ?_⟩) (by assumption) ?_
        rotate_left
        · (intro w hSw; (try dsimp only at hSw); go_simp; try with_reducible rfl)
        try simp only [Act.put, List.setIfInBounds_toArray, List.set_cons_zero, List.set_cons_succ]
        refine wpAnyH_take (i := 8) (oi := ⟨some 28, Op.move (Operand.tmp 1), 34, _, _, some (2, false)⟩) (v := ?_) rfl (by kernel_rfl) (by kernel_rfl) (by kernel_rfl) (fun _ _ _ h => h) (Or.inl ⟨by rfl, ?_⟩) (by assumption) ?_
        rotate_left
        · (intro w hSw; (try dsimp only at hSw); go_simp; try with_reducible rfl)
        try simp only [Act.put, List.setIfInBounds_toArray, List.set_cons_zero, List.set_cons_succ]
        refine wpAnyH_take (i := 9) (oi := ⟨some 29, Op.move (Operand.tmp 6), 3, _, _, some (2, false)⟩) (v := ?_) rfl (by kernel_rfl) (by kernel_rfl) (by kernel_rfl) (fun _ _ _ h => h) (Or.inl ⟨by rfl, ?_⟩) (by assumption) ?_
        rotate_left
        · (intro w hSw; (try dsimp only at hSw); go_simp; try with_reducible rfl)
        try simp only [Act.put, List.setIfInBounds_toArray, List.set_cons_zero, List.set_cons_succ]
        refine wpAnyH_take (i := 10) (oi := ⟨some 30, Op.indexAddr 34 (Operand.tmp 28) (Operand.tmp 29), 0, _, _, some (2, false)⟩) (v := ?_) rfl (by kernel_rfl) (by kernel_rfl) (by kernel_rfl) (fun _ _ _ h => h) (Or.inl ⟨by rfl, ?_⟩) (by assumption) ?_
        rotate_left
        · (intro w hSw; (try dsimp only at hSw); go_simp; try with_reducible rfl)
        try simp only [Act.put, List.setIfInBounds_toArray, List.set_cons_zero, List.set_cons_succ]
        refine wpAnyH_take (i := 11) (oi := ⟨some 31, Op.fieldAddr 52 (Operand.tmp 30) 1, 0, _, _, some (2, false)⟩) (v := ?_) rfl (by kernel_rfl) (by kernel_rfl) (by kernel_rfl) (fun _ _ _ h => h) (Or.inl ⟨by rfl, ?_⟩) (by assumption) ?_
        rotate_left
        · (intro w hSw; (try dsimp only at hSw); go_simp; try with_reducible rfl)
        try simp only [Act.put, List.setIfInBounds_toArray, List.set_cons_zero, List.set_cons_succ]
        refine wpAnyH_take (i := 12) (oi := ⟨some 32, Op.load 50 (Operand.tmp 31), 50, _, _, some (2, false)⟩) (v := ?_) rfl (by kernel_rfl) (by kernel_rfl) (by kernel_rfl) (fun _ _ _ h => h) (Or.inl ⟨by rfl, ?_⟩) (by assumption) ?_
        rotate_left
        · (intro w hSw; (try dsimp only at hSw); go_simp; try with_reducible rfl)
        try simp only [Act.put, List.setIfInBounds_toArray, List.set_cons_zero, List.set_cons_succ]
        refine wpAnyH_ready (rs := [13]) (by kernel_rfl) (by simp) ?_
        refine AllReadyH.cons (i := 13) (o := ⟨some 33, Op.call { callee := Callee.value (Operand.func 36), args := #[Operand.tmp 27, Operand.tmp 32], argTypes := #[50, 50] }, 4, _, _, some (2, false)⟩) rfl (fun K hK => ?_) AllReadyH.nil
        go_simp
        refine (l8Leq_c vs fs rs g2 _ es g4 _ et _ ((unhide I2).call hHeld.2.2) ((unhide I4).call hHeld.2.2) (unhide TA) (unhide TBi)).mono ?_
        rintro e w3 ⟨rfl, hb⟩
        rw [unhide HLE]
        refine hK.out _ _ (H2.call hb hHeld) (fun hHeld => ?_)
        clear hK K
        try simp only [Act.put, List.setIfInBounds_toArray, List.set_cons_zero, List.set_cons_succ]
        refine wpAnyH_take (i := 14) (oi := ⟨some 34, Op.unOp UnOp.not 4 (Operand.tmp 33), 4, _, _, some (2, false)⟩) (v := ?_) rfl (by kernel_rfl) (by kernel_rfl) (by kernel_rfl) (fun _ _ _ h => h) (Or.inl ⟨by rfl, ?_⟩) (by assumption) ?_
        rotate_left
        · (intro w hSw; (try dsimp only at hSw); go_simp; try with_reducible rfl)
        try simp only [Act.put, List.setIfInBounds_toArray, List.set_cons_zero, List.set_cons_succ]
        refine wpAnyH_take (i := 15) (oi := ⟨some 35, Op.pick (Operand.tmp 22) (Operand.const (Value.bool true)) (Operand.tmp 34), 4, _, _, none⟩) (v := ?_) rfl (by kernel_rfl) (by kernel_rfl) (by kernel_rfl) (fun _ _ _ h => h) (Or.inl ⟨by rfl, ?_⟩) (by assumption) ?_
        rotate_left
        · (intro w hSw; (try dsimp only at hSw); go_simp; try with_reducible rfl)
        try simp only [Act.put, List.setIfInBounds_toArray, List.set_cons_zero, List.set_cons_succ]
        refine wpAnyH_done (by kernel_rfl) ?_ _
        have HQ := hide hHeld.2.2
        clear hHeld hb hh
        cases q
        · have E : Hid (r = false) := by unfold Hid; rw [unhide HR]; exact leqP_bad k hk' (unhide EP)
          rw [show (decide ((i : Int) < 0) || !false) = true from by simp]
          go_wp2
          go_ret
          exact ⟨by rw [unhide E]; rfl, (unhide HB).trans ((unhide HQ).mono (unhide HB).size)⟩
        · rw [show (decide ((i : Int) < 0) || !true) = false from by simp]
          go_wp2
          go_roundw
          case rel => exact ⟨k + 1, by omega, by go_num, fun j hj h1 => by
            by_cases e : j = k
            · subst e; exact unhide EP
            · exact unhide HA j hj (by omega), (unhide HB).trans ((unhide HQ).mono (unhide HB).size)⟩
          case measure => simp [intOf]; omega
    · obtain rfl : k = L := by omega
      have E : Hid (r = true) := by unfold Hid; rw [unhide HR]; exact leqP_all (fun j hj => unhide HA j hj (by rw [unhide HL]; exact hj))
      go_wp2
      go_ret
      exact ⟨by rw [unhide E]; rfl, unhide HB⟩
def pleqB (vs fs : List ByteArray) (rs : List (ByteArray × Int)) (a b : List PR) : Bool := partsB vs fs rs a && (partsB vs fs rs b && leqP a b)
set_option maxRecDepth 20000 in
set_option maxHeartbeats 2000000 in
theorem sPartsLeq_c (a1 a2 a3 c1 c2 c3 : Nat) (vs fs : List ByteArray) (rs : List (ByteArray × Int)) (b1 d1 : Nat) (ps : List PR) (b2 d2 : Nat) (pt : List PR) (w : World) (hv : Strs w (some ⟨a1, 0, none⟩) vs) (hf : Strs w (some ⟨a2, 0, none⟩) fs) (hr : Arrs w (some ⟨a3, 0, none⟩) rs)
    (hz : ∀ x ∈ namesOf vs fs rs, x.size ≤ 1048576) (h1 : OwnP w b1 ps) (h2 : OwnP w b2 pt) :
    Calls Tryd.prog 6 #[.agg #[.slice (some ⟨a1, 0, none⟩) vs.length c1, .slice (some ⟨a2, 0, none⟩) fs.length c2, .slice (some ⟨a3, 0, none⟩) rs.length c3], .slice (some ⟨b1, 0, none⟩) ps.length d1, .slice (some ⟨b2, 0, none⟩) pt.length d2] w fun e w' => e = .returned (.bool (pleqB vs fs rs ps pt)) ∧ Below w.heap.size w w' := by
  have HV := hide hv
  have HF := hide hf
  have HR := hide hr
  have HZ := hide hz
  have HP1 := hide h1
  have HP2 := hide h2
  have HT := hide (C3.new w (.slice (some ⟨a1, 0, none⟩) vs.length c1) (.slice (some ⟨a2, 0, none⟩) fs.length c2) (.slice (some ⟨a3, 0, none⟩) rs.length c3) 32)
  have HB := hide ((Below.refl _ w).alloc (Nat.le_refl _) (Obj.cells #[.slice (some ⟨a1, 0, none⟩) vs.length c1, .slice (some ⟨a2, 0, none⟩) fs.length c2, .slice (some ⟨a3, 0, none⟩) rs.length c3] 32))
  clear hv hf hr hz h1 h2
  go_enter Tryd.func6, Tryd.ntmps6
  go_wp2_with fail
  generalize w.alloc (Obj.cells #[.slice (some ⟨a1, 0, none⟩) vs.length c1, .slice (some ⟨a2, 0, none⟩) fs.length c2, .slice (some ⟨a3, 0, none⟩) rs.length c3] 32) = u at HT HB ⊢
  refine (sPartsOk_c a1 a2 a3 c1 c2 c3 vs fs rs b1 d1 ps _ ((unhide HV).call (unhide HB)) ((unhide HF).call (unhide HB)) ((unhide HR).call (unhide HB)) (unhide HZ) ((unhide HP1).call (unhide HB))).mono ?_
  rintro e u1 ⟨rfl, kb⟩
  have HT := hide ((unhide HT).call kb)
  have HB := hide ((unhide HB).trans (kb.mono (unhide HB).size))
  clear kb
  cases p1 : partsB vs fs rs ps
  · have E := hide (show pleqB vs fs rs ps pt = false by unfold pleqB; rw [p1]; rfl)
    clear p1
    go_wp2
    go_ret
    exact ⟨by rw [unhide E]; rfl, unhide HB⟩
  have Y1 := hide p1
  clear p1
  have t0 := (unhide HT).1
  have t1 := (unhide HT).2.1
  have t2 := (unhide HT).2.2.1
  go_wp2_with fail
  refine (sPartsOk_c a1 a2 a3 c1 c2 c3 vs fs rs b2 d2 pt _ ((unhide HV).call (unhide HB)) ((unhide HF).call (unhide HB)) ((unhide HR).call (unhide HB)) (unhide HZ) ((unhide HP2).call (unhide HB))).mono ?_
  rintro e u2 ⟨rfl, kb⟩
  have HB := hide ((unhide HB).trans (kb.mono (unhide HB).size))
  clear kb t0 t1 t2
  cases p2 : partsB vs fs rs pt
  · have E := hide (show pleqB vs fs rs ps pt = false by unfold pleqB; rw [unhide Y1, p2]; rfl)
    clear p2
    go_wp2
    go_ret
    exact ⟨by rw [unhide E]; rfl, unhide HB⟩
  have Y2 := hide p2
  clear p2
  go_wp2_with fail
  refine (l9Leq_c vs fs rs b1 d1 ps b2 d2 pt _ ((unhide HP1).call (unhide HB)) ((unhide HP2).call (unhide HB)) (unhide Y1) (unhide Y2)).mono ?_
  rintro e u3 ⟨rfl, kb⟩
  have HB := hide ((unhide HB).trans (kb.mono (unhide HB).size))
  clear kb
  have E := hide (show pleqB vs fs rs ps pt = leqP ps pt by unfold pleqB; rw [unhide Y1, unhide Y2]; rfl)
  generalize leqP ps pt = q at E ⊢
  go_wp2
  go_ret
  exact ⟨by rw [unhide E]; rfl, unhide HB⟩
end Go.Proofs.YthldhjifnpfmiaaDoor
