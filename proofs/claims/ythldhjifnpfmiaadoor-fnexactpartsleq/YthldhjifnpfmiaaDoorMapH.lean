/- Parts within parts, as the program tells it. -/
import Derived.Test.YthldhjifnpfmiaaDoorMapG
namespace Go.Proofs.YthldhjifnpfmiaaDoor
open Go.RowKit Go.Maps
set_option linter.unusedSimpArgs false
set_option linter.unusedVariables false

set_option maxRecDepth 20000 in
set_option maxHeartbeats 8000000 in
theorem iPartsLeq_c (a1 a2 a3 c1 c2 c3 : Nat) (vs fs : List ByteArray) (rs : List (ByteArray × Int)) (b1 d1 : Nat) (ps : List PR) (b2 d2 : Nat) (pt : List PR) (w : World) (hw : KW w) (hv : Strs w (some ⟨a1, 0, none⟩) vs) (hf : Strs w (some ⟨a2, 0, none⟩) fs) (hr : Arrs w (some ⟨a3, 0, none⟩) rs)
    (hz : ∀ x ∈ namesOf vs fs rs, x.size ≤ 1048576) (h1 : OwnP w b1 ps) (h2 : OwnP w b2 pt) :
    Calls Tryd.prog 9 #[.agg #[.slice (some ⟨a1, 0, none⟩) vs.length c1, .slice (some ⟨a2, 0, none⟩) fs.length c2, .slice (some ⟨a3, 0, none⟩) rs.length c3], .slice (some ⟨b1, 0, none⟩) ps.length d1, .slice (some ⟨b2, 0, none⟩) pt.length d2] w fun e w' => e = .returned (.bool (pleqB vs fs rs ps pt)) ∧ Below w.heap.size w w' := by
  have HW := hide hw
  have HV := hide hv
  have HF := hide hf
  have HR := hide hr
  have HZ := hide hz
  have HP1 := hide h1
  have HP2 := hide h2
  have hl := h1.1
  have hm := h2.1
  have HT := hide (C3.new w (.slice (some ⟨a1, 0, none⟩) vs.length c1) (.slice (some ⟨a2, 0, none⟩) fs.length c2) (.slice (some ⟨a3, 0, none⟩) rs.length c3) 32)
  have HB := hide ((Below.refl _ w).alloc (Nat.le_refl _) (Obj.cells #[.slice (some ⟨a1, 0, none⟩) vs.length c1, .slice (some ⟨a2, 0, none⟩) fs.length c2, .slice (some ⟨a3, 0, none⟩) rs.length c3] 32))
  obtain ⟨r, hr'⟩ : ∃ r, r = pleqB vs fs rs ps pt := ⟨_, rfl⟩
  rw [← hr']
  have HRR := hide hr'
  obtain ⟨L, hL⟩ : ∃ L, L = ps.length := ⟨_, rfl⟩
  have HL := hide hL
  obtain ⟨M, hM⟩ : ∃ M, M = pt.length := ⟨_, rfl⟩
  have HM := hide hM
  rw [← hL] at hl ⊢
  rw [← hM] at hm ⊢
  have hl' : (L : Int) ≤ 1048576 := by omega
  have hm' : (M : Int) ≤ 1048576 := by omega
  clear hw hv hf hr hz h1 h2 hr' hL hM
  go_enter Tryd.func9, Tryd.ntmps9
  go_wp2_with fail
  generalize w.alloc (Obj.cells #[.slice (some ⟨a1, 0, none⟩) vs.length c1, .slice (some ⟨a2, 0, none⟩) fs.length c2, .slice (some ⟨a3, 0, none⟩) rs.length c3] 32) = u at HT HB ⊢
  have kf := iPartsOk_c a1 a2 a3 c1 c2 c3 vs fs rs b1 d1 ps u ((unhide HW).call (unhide HB)) ((unhide HV).call (unhide HB)) ((unhide HF).call (unhide HB)) ((unhide HR).call (unhide HB)) (unhide HZ) ((unhide HP1).call (unhide HB))
  rw [← unhide HL] at kf
  refine kf.mono ?_
  clear kf
  rintro e u1 ⟨rfl, kb⟩
  have HT := hide ((unhide HT).call kb)
  have HB := hide ((unhide HB).trans (kb.mono (unhide HB).size))
  clear kb
  cases p1 : partsB vs fs rs ps
  · have E := hide (show r = false by rw [unhide HRR]; unfold pleqB; rw [p1]; rfl)
    clear p1
    go_wp2
    go_ret
    exact ⟨by rw [unhide E]; rfl, unhide HB⟩
  have Y1 := hide p1
  clear p1
  have t0 := (unhide HT).1
  have t1 := (unhide HT).2.1
  have t2 := (unhide HT).2.2.1
  go_wp2_with fail
  have kf := iPartsOk_c a1 a2 a3 c1 c2 c3 vs fs rs b2 d2 pt u1 ((unhide HW).call (unhide HB)) ((unhide HV).call (unhide HB)) ((unhide HF).call (unhide HB)) ((unhide HR).call (unhide HB)) (unhide HZ) ((unhide HP2).call (unhide HB))
  rw [← unhide HM] at kf
  refine kf.mono ?_
  clear kf
  rintro e u2 ⟨rfl, kb⟩
  have HT := hide ((unhide HT).call kb)
  have HB := hide ((unhide HB).trans (kb.mono (unhide HB).size))
  clear kb t0 t1 t2
  cases p2 : partsB vs fs rs pt
  · have E := hide (show r = false by rw [unhide HRR]; unfold pleqB; rw [unhide Y1, p2]; rfl)
    clear p2
    go_wp2
    go_ret
    exact ⟨by rw [unhide E]; rfl, unhide HB⟩
  have Y2 := hide p2
  clear p2
  have ER := hide (show r = leqP ps pt by rw [unhide HRR]; unfold pleqB; rw [unhide Y1, unhide Y2]; rfl)
  go_wp2_with fail
  have kf := placesOf_c (some ⟨b2, 0, none⟩) d2 pt u2 ((unhide HP2).call (unhide HB)).parts (fun i hi => (parts_at (unhide Y2) i hi).1)
  rw [← unhide HM] at kf
  refine kf.mono ?_
  clear kf
  rintro e u3 ⟨mb, mn_, rfl, hm3, hmb, kb⟩
  have HTM := hide hm3
  have HT := hide ((unhide HT).call kb)
  have HB := hide ((unhide HB).trans (kb.mono (unhide HB).size))
  clear kb hm3 hmb
  go_wp2_with fail
  go_loopw [26] (fun i wr => ∃ k : Nat, k ≤ L ∧ i = .int .i64 k ∧ (∀ j, (h1 : j < ps.length) → j < k → inP pt ps[j] = true) ∧ Hid (TkM wr mb mn_ (fun t => posT pt t M)) ∧ C3 wr w.heap.size (.slice (some ⟨a1, 0, none⟩) vs.length c1) (.slice (some ⟨a2, 0, none⟩) fs.length c2) (.slice (some ⟨a3, 0, none⟩) rs.length c3) ∧ Below w.heap.size w wr) (fun i _ => L - (intOf i).toNat)
  case atStart => exact ⟨0, Nat.zero_le _, rfl, fun j _ h0 => by omega, HTM, unhide HT, unhide HB⟩
  case round =>
    clear HT HB HTM
    obtain ⟨k, hk, rfl, ha, HTM, ht, hb⟩ := hrel
    have HA := hide ha
    have HB := hide hb
    have HT := hide ht
    clear ha hb ht
    by_cases hlt : k < L
    · have hk' : k < ps.length := by rw [← unhide HL]; exact hlt
      obtain ⟨g1, g2, c1, c2, i1, i2⟩ := (((unhide HP1).call (unhide HB)).2.1 k hk').tabs
      have I1 := hide i1
      have I2 := hide i2
      have TO := hide (parts_at (unhide Y1) k hk').1
      have TA := hide (parts_at (unhide Y1) k hk').2.1
      have PS := hide (show ps[k] = (ps[k].1, ps[k].2) from rfl)
      clear i1 i2
      generalize ps[k].1 = t at c1 I1 TO PS
      generalize ps[k].2 = es at c2 I2 TA PS
      have HC2 := hide (C2.new wr (.slice (some ⟨g1, 0, none⟩) t.length t.length) (.slice (some ⟨g2, 0, none⟩) es.length es.length) 52)
      have ka := (Below.refl _ wr).alloc (Nat.le_refl _) (Obj.cells #[.slice (some ⟨g1, 0, none⟩) t.length t.length, .slice (some ⟨g2, 0, none⟩) es.length es.length] 52)
      have HT := hide ((unhide HT).call ka)
      have HTM := hide ((unhide HTM).call ka)
      have I1 := hide ((unhide I1).call ka)
      have I2 := hide ((unhide I2).call ka)
      have HB := hide ((unhide HB).trans (ka.mono (unhide HB).size))
      clear ka
      go_wp2_with fail
      generalize wr.alloc (Obj.cells #[.slice (some ⟨g1, 0, none⟩) t.length t.length, .slice (some ⟨g2, 0, none⟩) es.length es.length] 52) = V at HC2 HT HB HTM I1 I2 ⊢
      generalize wr.heap.size = Pb at HC2 ⊢
      clear c1 c2
      refine (keyOf_c _ _ t V (unhide I1).1 (unhide TO)).mono ?_
      rintro e V1 ⟨rfl, kb⟩
      have HC2 := hide ((unhide HC2).call kb)
      have HT := hide ((unhide HT).call kb)
      have HTM := hide ((unhide HTM).call kb)
      have I2 := hide ((unhide I2).call kb)
      have HB := hide ((unhide HB).trans (kb.mono (unhide HB).size))
      clear kb
      have hlook := (unhide HTM).look (unhide TO)
      cases hp : posT pt t M with
      | none =>
        rw [hp] at hlook
        have E := hide (show inP pt ps[k] = false by rw [unhide PS]; unfold inP; simp only; rw [← unhide HM, hp])
        have E : Hid (r = false) := by unfold Hid; rw [unhide ER]; exact leqP_bad k hk' (unhide E)
        clear hp
        simp only [Option.getD_none, Option.isSome_none] at hlook
        go_upto_region 8 with fail
        clear hlook
        refine wp_region_held_drew (S := (fun u => Below V1.heap.size V1 u)) (by kernel_rfl) ((Below.refl _ _).drew) (fun hHeld => ?_)
        refine wpAnyH_take (i := 0) (oi := ⟨some 38, Op.move (Operand.tmp 11), 4, _, _, none⟩) (v := ?_) rfl (by kernel_rfl) (by kernel_rfl) (by kernel_rfl) (fun _ _ _ h => h) (Or.inl ⟨by rfl, ?_⟩) (by assumption) ?_
        rotate_left
        · (intro w hSw; (try dsimp only at hSw); go_simp; try with_reducible rfl)
        try simp only [Act.put, List.setIfInBounds_toArray, List.set_cons_zero, List.set_cons_succ]
        refine wpAnyH_take (i := 1) (oi := ⟨some 39, Op.unOp UnOp.not 4 (Operand.tmp 38), 4, _, _, none⟩) (v := ?_) rfl (by kernel_rfl) (by kernel_rfl) (by kernel_rfl) (fun _ _ _ h => h) (Or.inl ⟨by rfl, ?_⟩) (by assumption) ?_
        rotate_left
        · (intro w hSw; (try dsimp only at hSw); go_simp; try with_reducible rfl)
        try simp only [Act.put, List.setIfInBounds_toArray, List.set_cons_zero, List.set_cons_succ]
        refine wpAnyH_take (i := 2) (oi := ⟨some 40, Op.move (Operand.tmp 39), 4, _, _, none⟩) (v := ?_) rfl (by kernel_rfl) (by kernel_rfl) (by kernel_rfl) (fun _ _ _ h => h) (Or.inl ⟨by rfl, ?_⟩) (by assumption) ?_
        rotate_left
        · (intro w hSw; (try dsimp only at hSw); go_simp; try with_reducible rfl)
        try simp only [Act.put, List.setIfInBounds_toArray, List.set_cons_zero, List.set_cons_succ]
        refine wpAnyH_take (i := 3) (oi := ⟨some 41, Op.load 32 (Operand.tmp 3), 32, _, _, some (2, false)⟩) (v := undef) rfl (by kernel_rfl) (by kernel_rfl) (by kernel_rfl) (fun _ _ _ h => h) (Or.inr ⟨by rfl, rfl⟩) (by assumption) ?_
        try simp only [Act.put, List.setIfInBounds_toArray, List.set_cons_zero, List.set_cons_succ]
        refine wpAnyH_take (i := 4) (oi := ⟨some 42, Op.fieldAddr 52 (Operand.tmp 9) 1, 0, _, _, some (2, false)⟩) (v := undef) rfl (by kernel_rfl) (by kernel_rfl) (by kernel_rfl) (fun _ _ _ h => h) (Or.inr ⟨by rfl, rfl⟩) (by assumption) ?_
        try simp only [Act.put, List.setIfInBounds_toArray, List.set_cons_zero, List.set_cons_succ]
        refine wpAnyH_take (i := 5) (oi := ⟨some 43, Op.load 50 (Operand.tmp 42), 50, _, _, some (2, false)⟩) (v := undef) rfl (by kernel_rfl) (by kernel_rfl) (by kernel_rfl) (fun _ _ _ h => h) (Or.inr ⟨by rfl, rfl⟩) (by assumption) ?_
        try simp only [Act.put, List.setIfInBounds_toArray, List.set_cons_zero, List.set_cons_succ]
        refine wpAnyH_take (i := 6) (oi := ⟨some 44, Op.move (Operand.tmp 2), 34, _, _, some (2, false)⟩) (v := undef) rfl (by kernel_rfl) (by kernel_rfl) (by kernel_rfl) (fun _ _ _ h => h) (Or.inr ⟨by rfl, rfl⟩) (by assumption) ?_
        try simp only [Act.put, List.setIfInBounds_toArray, List.set_cons_zero, List.set_cons_succ]
        refine wpAnyH_take (i := 7) (oi := ⟨some 45, Op.move (Operand.tmp 10), 3, _, _, some (2, false)⟩) (v := undef) rfl (by kernel_rfl) (by kernel_rfl) (by kernel_rfl) (fun _ _ _ h => h) (Or.inr ⟨by rfl, rfl⟩) (by assumption) ?_
        try simp only [Act.put, List.setIfInBounds_toArray, List.set_cons_zero, List.set_cons_succ]
        refine wpAnyH_take (i := 8) (oi := ⟨some 46, Op.indexAddr 34 (Operand.tmp 44) (Operand.tmp 45), 0, _, _, some (2, false)⟩) (v := undef) rfl (by kernel_rfl) (by kernel_rfl) (by kernel_rfl) (fun _ _ _ h => h) (Or.inr ⟨by rfl, rfl⟩) (by assumption) ?_
        try simp only [Act.put, List.setIfInBounds_toArray, List.set_cons_zero, List.set_cons_succ]
        refine wpAnyH_take (i := 9) (oi := ⟨some 47, Op.fieldAddr 52 (Operand.tmp 46) 1, 0, _, _, some (2, false)⟩) (v := undef) rfl (by kernel_rfl) (by kernel_rfl) (by kernel_rfl) (fun _ _ _ h => h) (Or.inr ⟨by rfl, rfl⟩) (by assumption) ?_
        try simp only [Act.put, List.setIfInBounds_toArray, List.set_cons_zero, List.set_cons_succ]
        refine wpAnyH_take (i := 10) (oi := ⟨some 48, Op.load 50 (Operand.tmp 47), 50, _, _, some (2, false)⟩) (v := undef) rfl (by kernel_rfl) (by kernel_rfl) (by kernel_rfl) (fun _ _ _ h => h) (Or.inr ⟨by rfl, rfl⟩) (by assumption) ?_
        try simp only [Act.put, List.setIfInBounds_toArray, List.set_cons_zero, List.set_cons_succ]
        refine wpAnyH_take (i := 11) (oi := ⟨some 49, Op.call { callee := Callee.value (Operand.func 23), args := #[Operand.tmp 41, Operand.tmp 43, Operand.tmp 48], argTypes := #[32, 50, 50] }, 4, _, _, some (2, false)⟩) (v := undef) rfl (by kernel_rfl) (by kernel_rfl) (by kernel_rfl) (fun _ _ _ h => h) (Or.inr ⟨by rfl, rfl⟩) (by assumption) ?_
        try simp only [Act.put, List.setIfInBounds_toArray, List.set_cons_zero, List.set_cons_succ]
        refine wpAnyH_take (i := 12) (oi := ⟨some 50, Op.unOp UnOp.not 4 (Operand.tmp 49), 4, _, _, some (2, false)⟩) (v := undef) rfl (by kernel_rfl) (by kernel_rfl) (by kernel_rfl) (fun _ _ _ h => h) (Or.inr ⟨by rfl, rfl⟩) (by assumption) ?_
        try simp only [Act.put, List.setIfInBounds_toArray, List.set_cons_zero, List.set_cons_succ]
        refine wpAnyH_take (i := 13) (oi := ⟨some 51, Op.pick (Operand.tmp 40) (Operand.const (Value.bool true)) (Operand.tmp 50), 4, _, _, none⟩) (v := ?_) rfl (by kernel_rfl) (by kernel_rfl) (by kernel_rfl) (fun _ _ _ h => h) (Or.inl ⟨by rfl, ?_⟩) (by assumption) ?_
        rotate_left
        · (intro w hSw; (try dsimp only at hSw); go_simp; try with_reducible rfl)
        try simp only [Act.put, List.setIfInBounds_toArray, List.set_cons_zero, List.set_cons_succ]
        refine wpAnyH_done (by kernel_rfl) ?_ _
        have HQ := hide hHeld
        clear hHeld
        go_wp2
        go_ret
        exact ⟨by rw [unhide E]; rfl, (unhide HB).trans ((unhide HQ).mono (unhide HB).size)⟩
      | some i =>
        rw [hp] at hlook
        obtain ⟨hi, _, hi2⟩ := posT_some (show M ≤ pt.length by rw [unhide HM]; exact Nat.le_refl _) hp
        have hiM : i < M := by rw [unhide HM]; exact hi
        have hiI : (i : Int) < (M : Int) := by omega
        obtain ⟨g3, g4, _, d2', _, i4⟩ := (((unhide HP2).call (unhide HB)).2.1 i hi).tabs
        have I4 := hide i4
        have TBi := hide (parts_at (unhide Y2) i hi).2.1
        have EP := hide (show inP pt ps[k] = leqRs es pt[i].2 from by rw [unhide PS]; exact inP_some (unhide Y2) _ hi hi2)
        have Q4 := hide d2'
        clear i4 hi2 d2' hp
        generalize pt[i].2 = et at I4 Q4 TBi EP
        have TL := hide (show tleqB vs fs rs es et = leqRs es et by unfold tleqB; rw [unhide TA, unhide TBi]; rfl)
        obtain ⟨q, hq⟩ : ∃ q, leqRs es et = q := ⟨_, rfl⟩
        rw [hq] at EP TL
        have HLE := hide (unhide TL)
        clear hq
        have hh : M6 V1 w.heap.size (.slice (some ⟨a1, 0, none⟩) vs.length c1) (.slice (some ⟨a2, 0, none⟩) fs.length c2) (.slice (some ⟨a3, 0, none⟩) rs.length c3) ⟨Pb, 1, none⟩ ⟨b2, i * 2 + 1, none⟩ ⟨Pb, 1, none⟩ (.slice (some ⟨g2, 0, none⟩) es.length es.length) (.slice (some ⟨g4, 0, none⟩) et.length et.length) (.slice (some ⟨g2, 0, none⟩) es.length es.length) V1 := M6.of (unhide HT) (Below.refl _ _) (unhide HC2).2.1 (unhide Q4) (unhide HC2).2.1
        simp only [Option.getD_some, Option.isSome_some] at hlook
        go_upto_region 8 with fail
        clear hlook
        refine wp_region_held_drew (S := (M6 V1 w.heap.size (.slice (some ⟨a1, 0, none⟩) vs.length c1) (.slice (some ⟨a2, 0, none⟩) fs.length c2) (.slice (some ⟨a3, 0, none⟩) rs.length c3) ⟨Pb, 1, none⟩ ⟨b2, i * 2 + 1, none⟩ ⟨Pb, 1, none⟩ (.slice (some ⟨g2, 0, none⟩) es.length es.length) (.slice (some ⟨g4, 0, none⟩) et.length et.length) (.slice (some ⟨g2, 0, none⟩) es.length es.length))) (by kernel_rfl) (M6.call hh (Below.refl _ _).drew) (fun hHeld => ?_)
        refine wpAnyH_take (i := 0) (oi := ⟨some 38, Op.move (Operand.tmp 11), 4, _, _, none⟩) (v := ?_) rfl (by kernel_rfl) (by kernel_rfl) (by kernel_rfl) (fun _ _ _ h => h) (Or.inl ⟨by rfl, ?_⟩) (by assumption) ?_
        rotate_left
        · (intro w hSw; (try dsimp only at hSw); go_simp; try with_reducible rfl)
        try simp only [Act.put, List.setIfInBounds_toArray, List.set_cons_zero, List.set_cons_succ]
        refine wpAnyH_take (i := 1) (oi := ⟨some 39, Op.unOp UnOp.not 4 (Operand.tmp 38), 4, _, _, none⟩) (v := ?_) rfl (by kernel_rfl) (by kernel_rfl) (by kernel_rfl) (fun _ _ _ h => h) (Or.inl ⟨by rfl, ?_⟩) (by assumption) ?_
        rotate_left
        · (intro w hSw; (try dsimp only at hSw); go_simp; try with_reducible rfl)
        try simp only [Act.put, List.setIfInBounds_toArray, List.set_cons_zero, List.set_cons_succ]
        refine wpAnyH_take (i := 2) (oi := ⟨some 40, Op.move (Operand.tmp 39), 4, _, _, none⟩) (v := ?_) rfl (by kernel_rfl) (by kernel_rfl) (by kernel_rfl) (fun _ _ _ h => h) (Or.inl ⟨by rfl, ?_⟩) (by assumption) ?_
        rotate_left
        · (intro w hSw; (try dsimp only at hSw); go_simp; try with_reducible rfl)
        try simp only [Act.put, List.setIfInBounds_toArray, List.set_cons_zero, List.set_cons_succ]
        refine wpAnyH_take (i := 3) (oi := ⟨some 41, Op.load 32 (Operand.tmp 3), 32, _, _, some (2, false)⟩) (v := ?_) rfl (by kernel_rfl) (by kernel_rfl) (by kernel_rfl) (fun _ _ _ h => h) (Or.inl ⟨by rfl, ?_⟩) (by assumption) ?_
        rotate_left
        · (intro w hSw; (try dsimp only at hSw); go_simp; try with_reducible rfl)
        try simp only [Act.put, List.setIfInBounds_toArray, List.set_cons_zero, List.set_cons_succ]
        refine wpAnyH_take (i := 4) (oi := ⟨some 42, Op.fieldAddr 52 (Operand.tmp 9) 1, 0, _, _, some (2, false)⟩) (v := ?_) rfl (by kernel_rfl) (by kernel_rfl) (by kernel_rfl) (fun _ _ _ h => h) (Or.inl ⟨by rfl, ?_⟩) (by assumption) ?_
        rotate_left
        · (intro w hSw; (try dsimp only at hSw); go_simp; try with_reducible rfl)
        try simp only [Act.put, List.setIfInBounds_toArray, List.set_cons_zero, List.set_cons_succ]
        refine wpAnyH_take (i := 5) (oi := ⟨some 43, Op.load 50 (Operand.tmp 42), 50, _, _, some (2, false)⟩) (v := ?_) rfl (by kernel_rfl) (by kernel_rfl) (by kernel_rfl) (fun _ _ _ h => h) (Or.inl ⟨by rfl, ?_⟩) (by assumption) ?_
        rotate_left
        · (intro w hSw; (try dsimp only at hSw); go_simp; try with_reducible rfl)
        try simp only [Act.put, List.setIfInBounds_toArray, List.set_cons_zero, List.set_cons_succ]
        refine wpAnyH_take (i := 6) (oi := ⟨some 44, Op.move (Operand.tmp 2), 34, _, _, some (2, false)⟩) (v := ?_) rfl (by kernel_rfl) (by kernel_rfl) (by kernel_rfl) (fun _ _ _ h => h) (Or.inl ⟨by rfl, ?_⟩) (by assumption) ?_
        rotate_left
        · (intro w hSw; (try dsimp only at hSw); go_simp; try with_reducible rfl)
        try simp only [Act.put, List.setIfInBounds_toArray, List.set_cons_zero, List.set_cons_succ]
        refine wpAnyH_take (i := 7) (oi := ⟨some 45, Op.move (Operand.tmp 10), 3, _, _, some (2, false)⟩) (v := ?_) rfl (by kernel_rfl) (by kernel_rfl) (by kernel_rfl) (fun _ _ _ h => h) (Or.inl ⟨by rfl, ?_⟩) (by assumption) ?_
        rotate_left
        · (intro w hSw; (try dsimp only at hSw); go_simp; try with_reducible rfl)
        try simp only [Act.put, List.setIfInBounds_toArray, List.set_cons_zero, List.set_cons_succ]
        refine wpAnyH_take (i := 8) (oi := ⟨some 46, Op.indexAddr 34 (Operand.tmp 44) (Operand.tmp 45), 0, _, _, some (2, false)⟩) (v := ?_) rfl (by kernel_rfl) (by kernel_rfl) (by kernel_rfl) (fun _ _ _ h => h) (Or.inl ⟨by rfl, ?_⟩) (by assumption) ?_
        rotate_left
        · (intro w hSw; (try dsimp only at hSw); go_simp; try with_reducible rfl)
        try simp only [Act.put, List.setIfInBounds_toArray, List.set_cons_zero, List.set_cons_succ]
        refine wpAnyH_take (i := 9) (oi := ⟨some 47, Op.fieldAddr 52 (Operand.tmp 46) 1, 0, _, _, some (2, false)⟩) (v := ?_) rfl (by kernel_rfl) (by kernel_rfl) (by kernel_rfl) (fun _ _ _ h => h) (Or.inl ⟨by rfl, ?_⟩) (by assumption) ?_
        rotate_left
        · (intro w hSw; (try dsimp only at hSw); go_simp; try with_reducible rfl)
        try simp only [Act.put, List.setIfInBounds_toArray, List.set_cons_zero, List.set_cons_succ]
        refine wpAnyH_take (i := 10) (oi := ⟨some 48, Op.load 50 (Operand.tmp 47), 50, _, _, some (2, false)⟩) (v := ?_) rfl (by kernel_rfl) (by kernel_rfl) (by kernel_rfl) (fun _ _ _ h => h) (Or.inl ⟨by rfl, ?_⟩) (by assumption) ?_
        rotate_left
        · (intro w hSw; (try dsimp only at hSw); go_simp; try with_reducible rfl)
        try simp only [Act.put, List.setIfInBounds_toArray, List.set_cons_zero, List.set_cons_succ]
        refine wpAnyH_ready (rs := [11]) (by kernel_rfl) (by simp) ?_
        refine AllReadyH.cons (i := 11) (o := ⟨some 49, Op.call { callee := Callee.value (Operand.func 23), args := #[Operand.tmp 41, Operand.tmp 43, Operand.tmp 48], argTypes := #[32, 50, 50] }, 4, _, _, some (2, false)⟩) rfl (fun K hK => ?_) AllReadyH.nil
        go_simp
        refine (iTableLeq_c a1 a2 a3 c1 c2 c3 vs fs rs g2 _ es g4 _ et _ (((unhide HW).call (unhide HB)).call hHeld.bel) (((unhide HV).call (unhide HB)).call hHeld.bel) (((unhide HF).call (unhide HB)).call hHeld.bel) (((unhide HR).call (unhide HB)).call hHeld.bel) (unhide HZ) ((unhide I2).call hHeld.bel) ((unhide I4).call hHeld.bel)).mono ?_
        rintro e w3 ⟨rfl, hb⟩
        rw [unhide HLE]
        refine hK.out _ _ (M6.call hHeld hb) (fun hHeld => ?_)
        clear hK K
        try simp only [Act.put, List.setIfInBounds_toArray, List.set_cons_zero, List.set_cons_succ]
        refine wpAnyH_take (i := 12) (oi := ⟨some 50, Op.unOp UnOp.not 4 (Operand.tmp 49), 4, _, _, some (2, false)⟩) (v := ?_) rfl (by kernel_rfl) (by kernel_rfl) (by kernel_rfl) (fun _ _ _ h => h) (Or.inl ⟨by rfl, ?_⟩) (by assumption) ?_
        rotate_left
        · (intro w hSw; (try dsimp only at hSw); go_simp; try with_reducible rfl)
        try simp only [Act.put, List.setIfInBounds_toArray, List.set_cons_zero, List.set_cons_succ]
        refine wpAnyH_take (i := 13) (oi := ⟨some 51, Op.pick (Operand.tmp 40) (Operand.const (Value.bool true)) (Operand.tmp 50), 4, _, _, none⟩) (v := ?_) rfl (by kernel_rfl) (by kernel_rfl) (by kernel_rfl) (fun _ _ _ h => h) (Or.inl ⟨by rfl, ?_⟩) (by assumption) ?_
        rotate_left
        · (intro w hSw; (try dsimp only at hSw); go_simp; try with_reducible rfl)
        try simp only [Act.put, List.setIfInBounds_toArray, List.set_cons_zero, List.set_cons_succ]
        refine wpAnyH_done (by kernel_rfl) ?_ _
        have HQ := hide hHeld.bel
        have HT := hide hHeld.c3
        clear hHeld hb hh
        have HTM := hide ((unhide HTM).call (unhide HQ))
        cases q
        · have E : Hid (r = false) := by unfold Hid; rw [unhide ER]; exact leqP_bad k hk' (unhide EP)
          go_wp2
          go_ret
          exact ⟨by rw [unhide E]; rfl, (unhide HB).trans ((unhide HQ).mono (unhide HB).size)⟩
        · go_wp2
          go_roundw
          case rel => exact ⟨k + 1, by omega, by go_num, fun j hj h1 => by
            by_cases e : j = k
            · subst e; exact unhide EP
            · exact unhide HA j hj (by omega), HTM, unhide HT, (unhide HB).trans ((unhide HQ).mono (unhide HB).size)⟩
          case measure => simp [intOf]; omega
    · obtain rfl : k = L := by omega
      have E : Hid (r = true) := by unfold Hid; rw [unhide ER]; exact leqP_all (fun j hj => unhide HA j hj (by rw [unhide HL]; exact hj))
      go_wp2
      go_ret
      exact ⟨by rw [unhide E]; rfl, unhide HB⟩
end Go.Proofs.YthldhjifnpfmiaaDoor
