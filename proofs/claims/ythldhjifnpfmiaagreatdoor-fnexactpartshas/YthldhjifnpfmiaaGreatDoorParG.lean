/- Whether parts are right, as the program tells it. -/
import Derived.Test.YthldhjifnpfmiaaGreatDoorParE
namespace Go.Proofs.YthldhjifnpfmiaaGreatDoor
open Go.RowKit
set_option linter.unusedSimpArgs false
set_option linter.unusedVariables false

set_option maxRecDepth 20000 in
set_option maxHeartbeats 4000000 in
theorem iPartsOk_c (a1 a2 a3 c1 c2 c3 : Nat) (vs fs : List ByteArray) (rs : List (ByteArray × Int)) (b d : Nat) (ps : List PR) (w : World) (hw : KW w) (hv : Strs w (some ⟨a1, 0, none⟩) vs) (hf : Strs w (some ⟨a2, 0, none⟩) fs) (hr : Arrs w (some ⟨a3, 0, none⟩) rs)
    (hz : ∀ x ∈ namesOf vs fs rs, x.size ≤ 1048576) (hp : OwnP w b ps) :
    Calls Tryz.prog 37 #[.agg #[.slice (some ⟨a1, 0, none⟩) vs.length c1, .slice (some ⟨a2, 0, none⟩) fs.length c2, .slice (some ⟨a3, 0, none⟩) rs.length c3], .slice (some ⟨b, 0, none⟩) ps.length d] w fun e w' => e = .returned (.bool (partsB vs fs rs ps)) ∧ Below w.heap.size w w' := by
  have HW := hide hw
  have HV := hide hv
  have HF := hide hf
  have HR := hide hr
  have HZ := hide hz
  have HP := hide hp
  have hl := hp.1
  have HT := hide (C3.new w (.slice (some ⟨a1, 0, none⟩) vs.length c1) (.slice (some ⟨a2, 0, none⟩) fs.length c2) (.slice (some ⟨a3, 0, none⟩) rs.length c3) 40)
  have HK := hide ((Below.refl _ w).alloc (Nat.le_refl _) (Obj.cells #[.slice (some ⟨a1, 0, none⟩) vs.length c1, .slice (some ⟨a2, 0, none⟩) fs.length c2, .slice (some ⟨a3, 0, none⟩) rs.length c3] 40))
  obtain ⟨r, hr'⟩ : ∃ r, r = partsB vs fs rs ps := ⟨_, rfl⟩
  rw [← hr']
  have HRR := hide hr'
  obtain ⟨L, hL⟩ : ∃ L, L = ps.length := ⟨_, rfl⟩
  have HL := hide hL
  rw [← hL] at hl ⊢
  have hl' : (L : Int) ≤ 1048576 := by omega
  clear hw hv hf hr hz hp hr' hL
  go_enter Tryz.func37, Tryz.ntmps37
  go_wp2_with fail
  generalize w.alloc (Obj.cells #[.slice (some ⟨a1, 0, none⟩) vs.length c1, .slice (some ⟨a2, 0, none⟩) fs.length c2, .slice (some ⟨a3, 0, none⟩) rs.length c3] 40) = u at HT HK ⊢
  refine (iDeclOk_c a1 a2 a3 c1 c2 c3 vs fs rs _ ((unhide HW).call (unhide HK)) ((unhide HV).call (unhide HK)) ((unhide HF).call (unhide HK)) ((unhide HR).call (unhide HK)) (unhide HZ)).mono ?_
  rintro e u1 ⟨rfl, k1⟩
  have HT := hide ((unhide HT).call k1)
  have HK := hide ((unhide HK).trans (k1.mono (unhide HK).size))
  clear k1
  cases hd : declB vs fs rs
  · have E : Hid (r = false) := by unfold Hid; rw [unhide HRR, partsB, hd]; rfl
    clear hd
    go_wp2
    go_ret
    exact ⟨by rw [unhide E]; rfl, unhide HK⟩
  have HD := hide hd
  clear hd
  by_cases h100 : (L : Int) ≤ 100
  · go_wp2
    go_loopw [17] (fun i wr => ∃ k : Nat, k ≤ L ∧ i = .int .i64 k ∧ (∀ m, m < k → okAt vs fs rs ps m = true) ∧ C3 wr w.heap.size (.slice (some ⟨a1, 0, none⟩) vs.length c1) (.slice (some ⟨a2, 0, none⟩) fs.length c2) (.slice (some ⟨a3, 0, none⟩) rs.length c3) ∧ Below w.heap.size w wr) (fun i _ => L - (intOf i).toNat)
    case atStart => exact ⟨0, Nat.zero_le _, rfl, fun m h0 => by omega, unhide HT, unhide HK⟩
    case round =>
      clear HT HK
      obtain ⟨k, hk, rfl, ha, ht, hb⟩ := hrel
      have HA := hide ha
      have HB := hide hb
      have HT := hide ht
      clear ha hb ht
      by_cases hlt : k < L
      · have hk' : k < ps.length := by rw [← unhide HL]; exact hlt
        cases k with
        | zero =>
          obtain ⟨g1, g2, _, _, q1, q2, i1, i2⟩ := (unhide HP).2.1 0 hk'
          have I1 := hide i1.1
          have I2 := hide i2
          have OKE : Hid (okAt vs fs rs ps 0 = (tokB ps[0].1 && (tabB vs fs rs ps[0].2 && liveB ps[0].2))) := by unfold Hid; exact okAt_0 hk'
          have Q1 := hide (((unhide HB).cell (World.block_lt_of_cell? w _ q1)).trans q1)
          have Q2 := hide (((unhide HB).cell (World.block_lt_of_cell? w _ q2)).trans q2)
          rw [show 0 * 2 = 0 from rfl] at Q1
          rw [show 0 * 2 + 1 = 1 from rfl] at Q2
          clear i1 i2 q1 q2
          generalize ps[0].1 = xs at Q1 I1 OKE
          generalize ps[0].2 = es at Q2 I2 OKE
          have HC2 := hide (C2.new wr (.slice (some ⟨g1, 0, none⟩) xs.length xs.length) (.slice (some ⟨g2, 0, none⟩) es.length es.length) 72)
          have HT := hide ((unhide HT).alloc (Obj.cells #[.slice (some ⟨g1, 0, none⟩) xs.length xs.length, .slice (some ⟨g2, 0, none⟩) es.length es.length] 72))
          have HB := hide ((unhide HB).alloc (unhide HB).size (Obj.cells #[.slice (some ⟨g1, 0, none⟩) xs.length xs.length, .slice (some ⟨g2, 0, none⟩) es.length es.length] 72))
          have d1 := ((Below.refl _ wr).cell (p := ⟨b, 0, none⟩) (World.block_lt_of_cell? wr _ (unhide Q1))).trans (unhide Q1)
          have d2 := ((Below.refl _ wr).cell (p := ⟨b, 1, none⟩) (World.block_lt_of_cell? wr _ (unhide Q2))).trans (unhide Q2)
          go_wp2_with fail
          generalize wr.alloc (Obj.cells #[.slice (some ⟨g1, 0, none⟩) xs.length xs.length, .slice (some ⟨g2, 0, none⟩) es.length es.length] 72) = V at HC2 HT HB ⊢
          generalize wr.heap.size = Pb at HC2 ⊢
          clear d1 d2
          refine (TokenOk_c _ _ xs _ ((unhide I1).call (unhide HB))).mono ?_
          rintro e V1 ⟨rfl, kb⟩
          have HC2 := hide ((unhide HC2).call kb)
          have HT := hide ((unhide HT).call kb)
          have HB := hide ((unhide HB).trans (kb.mono (unhide HB).size))
          clear kb
          cases tk : tokB xs
          · have TK := hide tk
            clear tk
            have E : Hid (r = false) := by unfold Hid; rw [unhide HRR]; exact partsB_bad _ hk' (by rw [unhide OKE]; rw [unhide TK]; rfl)
            go_wp2
            go_ret
            exact ⟨by rw [unhide E]; rfl, unhide HB⟩
          have TK := hide tk
          clear tk
          have p1 := (unhide HC2).2.1
          have t0 := (unhide HT).1
          have t1 := (unhide HT).2.1
          have t2 := (unhide HT).2.2.1
          go_wp2_with fail
          clear p1 t0 t1 t2
          refine (iTableOk_c a1 a2 a3 c1 c2 c3 vs fs rs g2 _ es _ ((unhide HW).call (unhide HB)) ((unhide HV).call (unhide HB)) ((unhide HF).call (unhide HB)) ((unhide HR).call (unhide HB)) (unhide HZ) ((unhide I2).call (unhide HB))).mono ?_
          rintro e V2 ⟨rfl, kb⟩
          have HC2 := hide ((unhide HC2).call kb)
          have HT := hide ((unhide HT).call kb)
          have HB := hide ((unhide HB).trans (kb.mono (unhide HB).size))
          clear kb
          cases tb : tabB vs fs rs es
          · have TB := hide tb
            clear tb
            have E : Hid (r = false) := by unfold Hid; rw [unhide HRR]; exact partsB_bad _ hk' (by rw [unhide OKE]; rw [unhide TK, unhide TB]; rfl)
            go_wp2
            go_ret
            exact ⟨by rw [unhide E]; rfl, unhide HB⟩
          have TB := hide tb
          clear tb
          have p1 := (unhide HC2).2.1
          go_wp2_with fail
          clear p1
          refine (someLive_c g2 _ es _ ((unhide I2).call (unhide HB))).mono ?_
          rintro e V3 ⟨rfl, kb⟩
          have HC2 := hide ((unhide HC2).call kb)
          have HT := hide ((unhide HT).call kb)
          have HB := hide ((unhide HB).trans (kb.mono (unhide HB).size))
          clear kb
          cases lv : liveB es
          · have LV := hide lv
            clear lv
            have E : Hid (r = false) := by unfold Hid; rw [unhide HRR]; exact partsB_bad _ hk' (by rw [unhide OKE]; rw [unhide TK, unhide TB, unhide LV]; rfl)
            go_wp2
            go_ret
            exact ⟨by rw [unhide E]; rfl, unhide HB⟩
          have LV := hide lv
          clear lv
          have HS : Hid ((M6 w w.heap.size (.slice (some ⟨a1, 0, none⟩) vs.length c1) (.slice (some ⟨a2, 0, none⟩) fs.length c2) (.slice (some ⟨a3, 0, none⟩) rs.length c3) ⟨Pb, 0, none⟩ ⟨Pb, 1, none⟩ ⟨Pb, 1, none⟩ (.slice (some ⟨g1, 0, none⟩) xs.length xs.length) (.slice (some ⟨g2, 0, none⟩) es.length es.length) (.slice (some ⟨g2, 0, none⟩) es.length es.length)) V3) := M6.of (unhide HT) (unhide HB) (unhide HC2).1 (unhide HC2).2.1 (unhide HC2).2.1
          go_wp2
          refine wp_region_held_drew (S := (M6 w w.heap.size (.slice (some ⟨a1, 0, none⟩) vs.length c1) (.slice (some ⟨a2, 0, none⟩) fs.length c2) (.slice (some ⟨a3, 0, none⟩) rs.length c3) ⟨Pb, 0, none⟩ ⟨Pb, 1, none⟩ ⟨Pb, 1, none⟩ (.slice (some ⟨g1, 0, none⟩) xs.length xs.length) (.slice (some ⟨g2, 0, none⟩) es.length es.length) (.slice (some ⟨g2, 0, none⟩) es.length es.length))) (by kernel_rfl) (M6.call (unhide HS) (Below.refl _ _).drew) (fun hHeld => ?_)
          refine wpAnyH_take (i := 0) (oi := { dst := some 39, op := Op.move (Operand.tmp 5), type := 3, pos := "l09_tokens.go:95", after := #[], guard := none }) (v := ?_) rfl (by kernel_rfl) (by kernel_rfl) (by kernel_rfl) (fun _ _ _ h => h) (Or.inl ⟨by rfl, ?_⟩) (by assumption) ?_
          rotate_left
          · (intro w hSw; (try dsimp only at hSw); go_simp; try with_reducible rfl)
          try simp only [Act.put, List.setIfInBounds_toArray, List.set_cons_zero, List.set_cons_succ]
          refine wpAnyH_take (i := 1) (oi := { dst := some 40, op := Op.binOp BinOp.gtr 3 (Operand.tmp 39) (Operand.const (Value.int IntKind.i64 0)) 3, type := 4, pos := "l09_tokens.go:95", after := #[{ on := 0, ground := Ground.data }], guard := none }) (v := ?_) rfl (by kernel_rfl) (by kernel_rfl) (by kernel_rfl) (fun _ _ _ h => h) (Or.inl ⟨by rfl, ?_⟩) (by assumption) ?_
          rotate_left
          · (intro w hSw; (try dsimp only at hSw); go_simp; try with_reducible rfl)
          try simp only [Act.put, List.setIfInBounds_toArray, List.set_cons_zero, List.set_cons_succ]
          refine wpAnyH_take (i := 2) (oi := { dst := some 41, op := Op.move (Operand.tmp 40), type := 4, pos := "l09_tokens.go:95", after := #[{ on := 1, ground := Ground.data }], guard := none }) (v := ?_) rfl (by kernel_rfl) (by kernel_rfl) (by kernel_rfl) (fun _ _ _ h => h) (Or.inl ⟨by rfl, ?_⟩) (by assumption) ?_
          rotate_left
          · (intro w hSw; (try dsimp only at hSw); go_simp; try with_reducible rfl)
          try simp only [Act.put, List.setIfInBounds_toArray, List.set_cons_zero, List.set_cons_succ]
          refine wpAnyH_take (i := 3) (oi := { dst := some 42, op := Op.move (Operand.tmp 1), type := 42, pos := "l09_tokens.go:95", after := #[{ on := 2, ground := Ground.guard }], guard := some (2, true) }) (v := undef) rfl (by kernel_rfl) (by kernel_rfl) (by kernel_rfl) (fun _ _ _ h => h) (Or.inr ⟨by rfl, rfl⟩) (by assumption) ?_
          try simp only [Act.put, List.setIfInBounds_toArray, List.set_cons_zero, List.set_cons_succ]
          refine wpAnyH_take (i := 4) (oi := { dst := some 43, op := Op.move (Operand.tmp 5), type := 3, pos := "l09_tokens.go:95", after := #[{ on := 2, ground := Ground.guard }], guard := some (2, true) }) (v := undef) rfl (by kernel_rfl) (by kernel_rfl) (by kernel_rfl) (fun _ _ _ h => h) (Or.inr ⟨by rfl, rfl⟩) (by assumption) ?_
          try simp only [Act.put, List.setIfInBounds_toArray, List.set_cons_zero, List.set_cons_succ]
          refine wpAnyH_take (i := 5) (oi := { dst := some 44, op := Op.binOp BinOp.sub 3 (Operand.tmp 43) (Operand.const (Value.int IntKind.i64 1)) 3, type := 3, pos := "l09_tokens.go:95", after := #[{ on := 4, ground := Ground.data }, { on := 2, ground := Ground.guard }], guard := some (2, true) }) (v := undef) rfl (by kernel_rfl) (by kernel_rfl) (by kernel_rfl) (fun _ _ _ h => h) (Or.inr ⟨by rfl, rfl⟩) (by assumption) ?_
          try simp only [Act.put, List.setIfInBounds_toArray, List.set_cons_zero, List.set_cons_succ]
          refine wpAnyH_take (i := 6) (oi := { dst := some 45, op := Op.indexAddr 42 (Operand.tmp 42) (Operand.tmp 44), type := 0, pos := "l09_tokens.go:95", after := #[{ on := 3, ground := Ground.data }, { on := 5, ground := Ground.data }, { on := 2, ground := Ground.guard }], guard := some (2, true) }) (v := undef) rfl (by kernel_rfl) (by kernel_rfl) (by kernel_rfl) (fun _ _ _ h => h) (Or.inr ⟨by rfl, rfl⟩) (by assumption) ?_
          try simp only [Act.put, List.setIfInBounds_toArray, List.set_cons_zero, List.set_cons_succ]
          refine wpAnyH_take (i := 7) (oi := { dst := some 46, op := Op.fieldAddr 72 (Operand.tmp 45) 0, type := 0, pos := "l09_tokens.go:95", after := #[{ on := 6, ground := Ground.data }, { on := 2, ground := Ground.guard }], guard := some (2, true) }) (v := undef) rfl (by kernel_rfl) (by kernel_rfl) (by kernel_rfl) (fun _ _ _ h => h) (Or.inr ⟨by rfl, rfl⟩) (by assumption) ?_
          try simp only [Act.put, List.setIfInBounds_toArray, List.set_cons_zero, List.set_cons_succ]
          refine wpAnyH_take (i := 8) (oi := { dst := some 47, op := Op.load 44 (Operand.tmp 46), type := 44, pos := "l09_tokens.go:95", after := #[{ on := 7, ground := Ground.data }, { on := 2, ground := Ground.guard }], guard := some (2, true) }) (v := undef) rfl (by kernel_rfl) (by kernel_rfl) (by kernel_rfl) (fun _ _ _ h => h) (Or.inr ⟨by rfl, rfl⟩) (by assumption) ?_
          try simp only [Act.put, List.setIfInBounds_toArray, List.set_cons_zero, List.set_cons_succ]
          refine wpAnyH_take (i := 9) (oi := { dst := some 48, op := Op.fieldAddr 72 (Operand.tmp 6) 0, type := 0, pos := "l09_tokens.go:95", after := #[{ on := 2, ground := Ground.guard }], guard := some (2, true) }) (v := undef) rfl (by kernel_rfl) (by kernel_rfl) (by kernel_rfl) (fun _ _ _ h => h) (Or.inr ⟨by rfl, rfl⟩) (by assumption) ?_
          try simp only [Act.put, List.setIfInBounds_toArray, List.set_cons_zero, List.set_cons_succ]
          refine wpAnyH_take (i := 10) (oi := { dst := some 49, op := Op.load 44 (Operand.tmp 48), type := 44, pos := "l09_tokens.go:95", after := #[{ on := 9, ground := Ground.data }, { on := 2, ground := Ground.guard }], guard := some (2, true) }) (v := undef) rfl (by kernel_rfl) (by kernel_rfl) (by kernel_rfl) (fun _ _ _ h => h) (Or.inr ⟨by rfl, rfl⟩) (by assumption) ?_
          try simp only [Act.put, List.setIfInBounds_toArray, List.set_cons_zero, List.set_cons_succ]
          refine wpAnyH_take (i := 11) (oi := { dst := some 50, op := Op.call { callee := Callee.value (Operand.func 63), args := #[Operand.tmp 47, Operand.tmp 49], argTypes := #[44, 44] }, type := 4, pos := "l09_tokens.go:95", after := #[{ on := 8, ground := Ground.data }, { on := 10, ground := Ground.data }, { on := 2, ground := Ground.chain }, { on := 2, ground := Ground.guard }], guard := some (2, true) }) (v := undef) rfl (by kernel_rfl) (by kernel_rfl) (by kernel_rfl) (fun _ _ _ h => h) (Or.inr ⟨by rfl, rfl⟩) (by assumption) ?_
          try simp only [Act.put, List.setIfInBounds_toArray, List.set_cons_zero, List.set_cons_succ]
          refine wpAnyH_take (i := 12) (oi := { dst := some 51, op := Op.unOp UnOp.not 4 (Operand.tmp 50), type := 4, pos := "l09_tokens.go:95", after := #[{ on := 11, ground := Ground.data }, { on := 2, ground := Ground.guard }], guard := some (2, true) }) (v := undef) rfl (by kernel_rfl) (by kernel_rfl) (by kernel_rfl) (fun _ _ _ h => h) (Or.inr ⟨by rfl, rfl⟩) (by assumption) ?_
          try simp only [Act.put, List.setIfInBounds_toArray, List.set_cons_zero, List.set_cons_succ]
          refine wpAnyH_take (i := 13) (oi := { dst := some 52, op := Op.pick (Operand.tmp 41) (Operand.tmp 51) (Operand.const (Value.bool false)), type := 4, pos := "l09_tokens.go:95", after := #[{ on := 2, ground := Ground.data }, { on := 12, ground := Ground.data }], guard := none }) (v := ?_) rfl (by kernel_rfl) (by kernel_rfl) (by kernel_rfl) (fun _ _ _ h => h) (Or.inl ⟨by rfl, ?_⟩) (by assumption) ?_
          rotate_left
          · (intro w hSw; (try dsimp only at hSw); go_simp; try with_reducible rfl)
          try simp only [Act.put, List.setIfInBounds_toArray, List.set_cons_zero, List.set_cons_succ]
          refine wpAnyH_done (by kernel_rfl) ?_ _
          have E := hide (show okAt vs fs rs ps _ = true by rw [unhide OKE]; rw [unhide TK, unhide TB, unhide LV]; rfl)
          have HQ := hide hHeld.bel
          have HQT := hide hHeld.c3
          clear hHeld
          go_wp2
          go_roundw
          case rel => exact ⟨0 + 1, by omega, by go_num, fun m h1 => by
            by_cases e : m = 0
            · subst e; exact unhide E
            · exact unhide HA m (by omega), unhide HQT, unhide HQ⟩
          case measure => simp [intOf]; omega
        | succ j =>
          have hj' : j < ps.length := by omega
          obtain ⟨g1, g2, _, _, q1, q2, i1, i2⟩ := (unhide HP).2.1 (j + 1) hk'
          obtain ⟨g0, _, _, _, q0, _, i0, _⟩ := (unhide HP).2.1 j hj'
          have I1 := hide i1.1
          have I2 := hide i2
          have I0 := hide i0.1
          have OKE := hide (okAt_s (vs := vs) (fs := fs) (rs := rs) j hk')
          have PO := hide (okAt_part hj' (unhide HA j (by omega)))
          unfold partOk at OKE PO
          have Q1 := hide (((unhide HB).cell (World.block_lt_of_cell? w _ q1)).trans q1)
          have Q2 := hide (((unhide HB).cell (World.block_lt_of_cell? w _ q2)).trans q2)
          have Q0 := hide q0
          clear i1 i2 q1 q2 i0 q0
          generalize ps[j + 1].1 = xs at Q1 I1 OKE
          generalize ps[j + 1].2 = es at Q2 I2 OKE
          generalize ps[j].1 = xs0 at Q0 I0 OKE PO
          have TK0 : Hid (tokB xs0 = true) := by
            have := unhide PO
            rw [Bool.and_eq_true] at this
            exact this.1
          clear PO
          have e1 : wrap64 ((j : Int) + 1 - 1) = (j : Int) := by unfold wrap64; omega
          have e11 : wrap64 (j : Int) = (j : Int) := by unfold wrap64; omega
          have e2 : IntKind.i64.wrap ((j : Int) + 1 - 1) = (j : Int) := by rw [IntKind.wrap_i64]; omega
          have e22 : IntKind.i64.wrap (j : Int) = (j : Int) := by rw [IntKind.wrap_i64]; omega
          have e3 : (0 : Int) < (j : Int) + 1 := by omega
          have e33 : (0 : Int) ≤ (j : Int) + 1 := by omega
          have e4 : (j : Int) < (L : Int) := by omega
          have e44 : (j : Int) + 1 < (L : Int) := by omega
          have HC2 := hide (C2.new wr (.slice (some ⟨g1, 0, none⟩) xs.length xs.length) (.slice (some ⟨g2, 0, none⟩) es.length es.length) 72)
          have HT := hide ((unhide HT).alloc (Obj.cells #[.slice (some ⟨g1, 0, none⟩) xs.length xs.length, .slice (some ⟨g2, 0, none⟩) es.length es.length] 72))
          have HB := hide ((unhide HB).alloc (unhide HB).size (Obj.cells #[.slice (some ⟨g1, 0, none⟩) xs.length xs.length, .slice (some ⟨g2, 0, none⟩) es.length es.length] 72))
          have d1 := ((Below.refl _ wr).cell (p := ⟨b, (j + 1) * 2, none⟩) (World.block_lt_of_cell? wr _ (unhide Q1))).trans (unhide Q1)
          have d2 := ((Below.refl _ wr).cell (p := ⟨b, (j + 1) * 2 + 1, none⟩) (World.block_lt_of_cell? wr _ (unhide Q2))).trans (unhide Q2)
          go_wp2_with fail
          generalize wr.alloc (Obj.cells #[.slice (some ⟨g1, 0, none⟩) xs.length xs.length, .slice (some ⟨g2, 0, none⟩) es.length es.length] 72) = V at HC2 HT HB ⊢
          generalize wr.heap.size = Pb at HC2 ⊢
          clear d1 d2
          refine (TokenOk_c _ _ xs _ ((unhide I1).call (unhide HB))).mono ?_
          rintro e V1 ⟨rfl, kb⟩
          have HC2 := hide ((unhide HC2).call kb)
          have HT := hide ((unhide HT).call kb)
          have HB := hide ((unhide HB).trans (kb.mono (unhide HB).size))
          clear kb
          cases tk : tokB xs
          · have TK := hide tk
            clear tk
            have E : Hid (r = false) := by unfold Hid; rw [unhide HRR]; exact partsB_bad _ hk' (by rw [unhide OKE]; rw [unhide TK]; rfl)
            go_wp2
            go_ret
            exact ⟨by rw [unhide E]; rfl, unhide HB⟩
          have TK := hide tk
          clear tk
          have p1 := (unhide HC2).2.1
          have t0 := (unhide HT).1
          have t1 := (unhide HT).2.1
          have t2 := (unhide HT).2.2.1
          go_wp2_with fail
          clear p1 t0 t1 t2
          refine (iTableOk_c a1 a2 a3 c1 c2 c3 vs fs rs g2 _ es _ ((unhide HW).call (unhide HB)) ((unhide HV).call (unhide HB)) ((unhide HF).call (unhide HB)) ((unhide HR).call (unhide HB)) (unhide HZ) ((unhide I2).call (unhide HB))).mono ?_
          rintro e V2 ⟨rfl, kb⟩
          have HC2 := hide ((unhide HC2).call kb)
          have HT := hide ((unhide HT).call kb)
          have HB := hide ((unhide HB).trans (kb.mono (unhide HB).size))
          clear kb
          cases tb : tabB vs fs rs es
          · have TB := hide tb
            clear tb
            have E : Hid (r = false) := by unfold Hid; rw [unhide HRR]; exact partsB_bad _ hk' (by rw [unhide OKE]; rw [unhide TK, unhide TB]; rfl)
            go_wp2
            go_ret
            exact ⟨by rw [unhide E]; rfl, unhide HB⟩
          have TB := hide tb
          clear tb
          have p1 := (unhide HC2).2.1
          go_wp2_with fail
          clear p1
          refine (someLive_c g2 _ es _ ((unhide I2).call (unhide HB))).mono ?_
          rintro e V3 ⟨rfl, kb⟩
          have HC2 := hide ((unhide HC2).call kb)
          have HT := hide ((unhide HT).call kb)
          have HB := hide ((unhide HB).trans (kb.mono (unhide HB).size))
          clear kb
          cases lv : liveB es
          · have LV := hide lv
            clear lv
            have E : Hid (r = false) := by unfold Hid; rw [unhide HRR]; exact partsB_bad _ hk' (by rw [unhide OKE]; rw [unhide TK, unhide TB, unhide LV]; rfl)
            go_wp2
            go_ret
            exact ⟨by rw [unhide E]; rfl, unhide HB⟩
          have LV := hide lv
          clear lv
          have HS : Hid ((M6 w w.heap.size (.slice (some ⟨a1, 0, none⟩) vs.length c1) (.slice (some ⟨a2, 0, none⟩) fs.length c2) (.slice (some ⟨a3, 0, none⟩) rs.length c3) ⟨Pb, 0, none⟩ ⟨Pb, 1, none⟩ ⟨b, j * 2, none⟩ (.slice (some ⟨g1, 0, none⟩) xs.length xs.length) (.slice (some ⟨g2, 0, none⟩) es.length es.length) (.slice (some ⟨g0, 0, none⟩) xs0.length xs0.length)) V3) := M6.of (unhide HT) (unhide HB) (unhide HC2).1 (unhide HC2).2.1 (((unhide HB).cell (World.block_lt_of_cell? w _ (unhide Q0))).trans (unhide Q0))
          cases ls : lessB xs0 xs
          · have LS := hide ls
            have dc : decide (tokC xs0 xs < 0) = false := by rw [← ls, lessB, unhide TK0, unhide TK]; rfl
            rw [dc, Bool.and_false] at OKE
            clear ls dc
            go_wp2
            refine wp_region_held_drew (S := (M6 w w.heap.size (.slice (some ⟨a1, 0, none⟩) vs.length c1) (.slice (some ⟨a2, 0, none⟩) fs.length c2) (.slice (some ⟨a3, 0, none⟩) rs.length c3) ⟨Pb, 0, none⟩ ⟨Pb, 1, none⟩ ⟨b, j * 2, none⟩ (.slice (some ⟨g1, 0, none⟩) xs.length xs.length) (.slice (some ⟨g2, 0, none⟩) es.length es.length) (.slice (some ⟨g0, 0, none⟩) xs0.length xs0.length))) (by kernel_rfl) (M6.call (unhide HS) (Below.refl _ _).drew) (fun hHeld => ?_)
            refine wpAnyH_take (i := 0) (oi := { dst := some 39, op := Op.move (Operand.tmp 5), type := 3, pos := "l09_tokens.go:95", after := #[], guard := none }) (v := ?_) rfl (by kernel_rfl) (by kernel_rfl) (by kernel_rfl) (fun _ _ _ h => h) (Or.inl ⟨by rfl, ?_⟩) (by assumption) ?_
            rotate_left
            · (intro w hSw; (try dsimp only at hSw); go_simp; try with_reducible rfl)
            try simp only [Act.put, List.setIfInBounds_toArray, List.set_cons_zero, List.set_cons_succ]
            refine wpAnyH_take (i := 1) (oi := { dst := some 40, op := Op.binOp BinOp.gtr 3 (Operand.tmp 39) (Operand.const (Value.int IntKind.i64 0)) 3, type := 4, pos := "l09_tokens.go:95", after := #[{ on := 0, ground := Ground.data }], guard := none }) (v := ?_) rfl (by kernel_rfl) (by kernel_rfl) (by kernel_rfl) (fun _ _ _ h => h) (Or.inl ⟨by rfl, ?_⟩) (by assumption) ?_
            rotate_left
            · (intro w hSw; (try dsimp only at hSw); go_simp; try with_reducible rfl)
            try simp only [Act.put, List.setIfInBounds_toArray, List.set_cons_zero, List.set_cons_succ]
            refine wpAnyH_take (i := 2) (oi := { dst := some 41, op := Op.move (Operand.tmp 40), type := 4, pos := "l09_tokens.go:95", after := #[{ on := 1, ground := Ground.data }], guard := none }) (v := ?_) rfl (by kernel_rfl) (by kernel_rfl) (by kernel_rfl) (fun _ _ _ h => h) (Or.inl ⟨by rfl, ?_⟩) (by assumption) ?_
            rotate_left
            · (intro w hSw; (try dsimp only at hSw); go_simp; try with_reducible rfl)
            try simp only [Act.put, List.setIfInBounds_toArray, List.set_cons_zero, List.set_cons_succ]
            refine wpAnyH_take (i := 3) (oi := { dst := some 42, op := Op.move (Operand.tmp 1), type := 42, pos := "l09_tokens.go:95", after := #[{ on := 2, ground := Ground.guard }], guard := some (2, true) }) (v := ?_) rfl (by kernel_rfl) (by kernel_rfl) (by kernel_rfl) (fun _ _ _ h => h) (Or.inl ⟨by rfl, ?_⟩) (by assumption) ?_
            rotate_left
            · (intro w hSw; (try dsimp only at hSw); go_simp; try with_reducible rfl)
            try simp only [Act.put, List.setIfInBounds_toArray, List.set_cons_zero, List.set_cons_succ]
            refine wpAnyH_take (i := 4) (oi := { dst := some 43, op := Op.move (Operand.tmp 5), type := 3, pos := "l09_tokens.go:95", after := #[{ on := 2, ground := Ground.guard }], guard := some (2, true) }) (v := ?_) rfl (by kernel_rfl) (by kernel_rfl) (by kernel_rfl) (fun _ _ _ h => h) (Or.inl ⟨by rfl, ?_⟩) (by assumption) ?_
            rotate_left
            · (intro w hSw; (try dsimp only at hSw); go_simp; try with_reducible rfl)
            try simp only [Act.put, List.setIfInBounds_toArray, List.set_cons_zero, List.set_cons_succ]
            refine wpAnyH_take (i := 5) (oi := { dst := some 44, op := Op.binOp BinOp.sub 3 (Operand.tmp 43) (Operand.const (Value.int IntKind.i64 1)) 3, type := 3, pos := "l09_tokens.go:95", after := #[{ on := 4, ground := Ground.data }, { on := 2, ground := Ground.guard }], guard := some (2, true) }) (v := ?_) rfl (by kernel_rfl) (by kernel_rfl) (by kernel_rfl) (fun _ _ _ h => h) (Or.inl ⟨by rfl, ?_⟩) (by assumption) ?_
            rotate_left
            · (intro w hSw; (try dsimp only at hSw); go_simp; try with_reducible rfl)
            try simp only [Act.put, List.setIfInBounds_toArray, List.set_cons_zero, List.set_cons_succ]
            refine wpAnyH_take (i := 6) (oi := { dst := some 45, op := Op.indexAddr 42 (Operand.tmp 42) (Operand.tmp 44), type := 0, pos := "l09_tokens.go:95", after := #[{ on := 3, ground := Ground.data }, { on := 5, ground := Ground.data }, { on := 2, ground := Ground.guard }], guard := some (2, true) }) (v := ?_) rfl (by kernel_rfl) (by kernel_rfl) (by kernel_rfl) (fun _ _ _ h => h) (Or.inl ⟨by rfl, ?_⟩) (by assumption) ?_
            rotate_left
            · (intro w hSw; (try dsimp only at hSw); go_simp; try with_reducible rfl)
            try simp only [Act.put, List.setIfInBounds_toArray, List.set_cons_zero, List.set_cons_succ]
            refine wpAnyH_take (i := 7) (oi := { dst := some 46, op := Op.fieldAddr 72 (Operand.tmp 45) 0, type := 0, pos := "l09_tokens.go:95", after := #[{ on := 6, ground := Ground.data }, { on := 2, ground := Ground.guard }], guard := some (2, true) }) (v := ?_) rfl (by kernel_rfl) (by kernel_rfl) (by kernel_rfl) (fun _ _ _ h => h) (Or.inl ⟨by rfl, ?_⟩) (by assumption) ?_
            rotate_left
            · (intro w hSw; (try dsimp only at hSw); go_simp; try with_reducible rfl)
            try simp only [Act.put, List.setIfInBounds_toArray, List.set_cons_zero, List.set_cons_succ]
            refine wpAnyH_take (i := 8) (oi := { dst := some 47, op := Op.load 44 (Operand.tmp 46), type := 44, pos := "l09_tokens.go:95", after := #[{ on := 7, ground := Ground.data }, { on := 2, ground := Ground.guard }], guard := some (2, true) }) (v := ?_) rfl (by kernel_rfl) (by kernel_rfl) (by kernel_rfl) (fun _ _ _ h => h) (Or.inl ⟨by rfl, ?_⟩) (by assumption) ?_
            rotate_left
            · (intro w hSw; (try dsimp only at hSw); go_simp; try with_reducible rfl)
            try simp only [Act.put, List.setIfInBounds_toArray, List.set_cons_zero, List.set_cons_succ]
            refine wpAnyH_take (i := 9) (oi := { dst := some 48, op := Op.fieldAddr 72 (Operand.tmp 6) 0, type := 0, pos := "l09_tokens.go:95", after := #[{ on := 2, ground := Ground.guard }], guard := some (2, true) }) (v := ?_) rfl (by kernel_rfl) (by kernel_rfl) (by kernel_rfl) (fun _ _ _ h => h) (Or.inl ⟨by rfl, ?_⟩) (by assumption) ?_
            rotate_left
            · (intro w hSw; (try dsimp only at hSw); go_simp; try with_reducible rfl)
            try simp only [Act.put, List.setIfInBounds_toArray, List.set_cons_zero, List.set_cons_succ]
            refine wpAnyH_take (i := 10) (oi := { dst := some 49, op := Op.load 44 (Operand.tmp 48), type := 44, pos := "l09_tokens.go:95", after := #[{ on := 9, ground := Ground.data }, { on := 2, ground := Ground.guard }], guard := some (2, true) }) (v := ?_) rfl (by kernel_rfl) (by kernel_rfl) (by kernel_rfl) (fun _ _ _ h => h) (Or.inl ⟨by rfl, ?_⟩) (by assumption) ?_
            rotate_left
            · (intro w hSw; (try dsimp only at hSw); go_simp; try with_reducible rfl)
            try simp only [Act.put, List.setIfInBounds_toArray, List.set_cons_zero, List.set_cons_succ]
            refine wpAnyH_ready (rs := [11]) (by kernel_rfl) (by simp) ?_
            refine AllReadyH.cons (i := 11) (o := { dst := some 50, op := Op.call { callee := Callee.value (Operand.func 63), args := #[Operand.tmp 47, Operand.tmp 49], argTypes := #[44, 44] }, type := 4, pos := "l09_tokens.go:95", after := #[{ on := 8, ground := Ground.data }, { on := 10, ground := Ground.data }, { on := 2, ground := Ground.chain }, { on := 2, ground := Ground.guard }], guard := some (2, true) }) rfl (fun K hK => ?_) AllReadyH.nil
            go_simp
            refine (TokenLess_c _ _ _ _ xs0 xs _ ((unhide I0).call hHeld.bel) ((unhide I1).call hHeld.bel)).mono ?_
            rintro e w3 ⟨rfl, hb⟩
            rw [unhide LS]
            refine hK.out _ _ (M6.call hHeld hb) (fun hHeld => ?_)
            clear hK K
            try simp only [Act.put, List.setIfInBounds_toArray, List.set_cons_zero, List.set_cons_succ]
            refine wpAnyH_take (i := 12) (oi := { dst := some 51, op := Op.unOp UnOp.not 4 (Operand.tmp 50), type := 4, pos := "l09_tokens.go:95", after := #[{ on := 11, ground := Ground.data }, { on := 2, ground := Ground.guard }], guard := some (2, true) }) (v := ?_) rfl (by kernel_rfl) (by kernel_rfl) (by kernel_rfl) (fun _ _ _ h => h) (Or.inl ⟨by rfl, ?_⟩) (by assumption) ?_
            rotate_left
            · (intro w hSw; (try dsimp only at hSw); go_simp; try with_reducible rfl)
            try simp only [Act.put, List.setIfInBounds_toArray, List.set_cons_zero, List.set_cons_succ]
            refine wpAnyH_take (i := 13) (oi := { dst := some 52, op := Op.pick (Operand.tmp 41) (Operand.tmp 51) (Operand.const (Value.bool false)), type := 4, pos := "l09_tokens.go:95", after := #[{ on := 2, ground := Ground.data }, { on := 12, ground := Ground.data }], guard := none }) (v := ?_) rfl (by kernel_rfl) (by kernel_rfl) (by kernel_rfl) (fun _ _ _ h => h) (Or.inl ⟨by rfl, ?_⟩) (by assumption) ?_
            rotate_left
            · (intro w hSw; (try dsimp only at hSw); go_simp; try with_reducible rfl)
            try simp only [Act.put, List.setIfInBounds_toArray, List.set_cons_zero, List.set_cons_succ]
            refine wpAnyH_done (by kernel_rfl) ?_ _
            have E : Hid (r = false) := by unfold Hid; rw [unhide HRR]; exact partsB_bad _ hk' (unhide OKE)
            have HQ := hide hHeld.bel
            clear hHeld
            go_wp2
            go_ret
            exact ⟨by rw [unhide E]; rfl, unhide HQ⟩
          · have LS := hide ls
            have dc : decide (tokC xs0 xs < 0) = true := by rw [← ls, lessB, unhide TK0, unhide TK]; rfl
            rw [dc, Bool.and_true] at OKE
            clear ls dc
            go_wp2
            refine wp_region_held_drew (S := (M6 w w.heap.size (.slice (some ⟨a1, 0, none⟩) vs.length c1) (.slice (some ⟨a2, 0, none⟩) fs.length c2) (.slice (some ⟨a3, 0, none⟩) rs.length c3) ⟨Pb, 0, none⟩ ⟨Pb, 1, none⟩ ⟨b, j * 2, none⟩ (.slice (some ⟨g1, 0, none⟩) xs.length xs.length) (.slice (some ⟨g2, 0, none⟩) es.length es.length) (.slice (some ⟨g0, 0, none⟩) xs0.length xs0.length))) (by kernel_rfl) (M6.call (unhide HS) (Below.refl _ _).drew) (fun hHeld => ?_)
            refine wpAnyH_take (i := 0) (oi := { dst := some 39, op := Op.move (Operand.tmp 5), type := 3, pos := "l09_tokens.go:95", after := #[], guard := none }) (v := ?_) rfl (by kernel_rfl) (by kernel_rfl) (by kernel_rfl) (fun _ _ _ h => h) (Or.inl ⟨by rfl, ?_⟩) (by assumption) ?_
            rotate_left
            · (intro w hSw; (try dsimp only at hSw); go_simp; try with_reducible rfl)
            try simp only [Act.put, List.setIfInBounds_toArray, List.set_cons_zero, List.set_cons_succ]
            refine wpAnyH_take (i := 1) (oi := { dst := some 40, op := Op.binOp BinOp.gtr 3 (Operand.tmp 39) (Operand.const (Value.int IntKind.i64 0)) 3, type := 4, pos := "l09_tokens.go:95", after := #[{ on := 0, ground := Ground.data }], guard := none }) (v := ?_) rfl (by kernel_rfl) (by kernel_rfl) (by kernel_rfl) (fun _ _ _ h => h) (Or.inl ⟨by rfl, ?_⟩) (by assumption) ?_
            rotate_left
            · (intro w hSw; (try dsimp only at hSw); go_simp; try with_reducible rfl)
            try simp only [Act.put, List.setIfInBounds_toArray, List.set_cons_zero, List.set_cons_succ]
            refine wpAnyH_take (i := 2) (oi := { dst := some 41, op := Op.move (Operand.tmp 40), type := 4, pos := "l09_tokens.go:95", after := #[{ on := 1, ground := Ground.data }], guard := none }) (v := ?_) rfl (by kernel_rfl) (by kernel_rfl) (by kernel_rfl) (fun _ _ _ h => h) (Or.inl ⟨by rfl, ?_⟩) (by assumption) ?_
            rotate_left
            · (intro w hSw; (try dsimp only at hSw); go_simp; try with_reducible rfl)
            try simp only [Act.put, List.setIfInBounds_toArray, List.set_cons_zero, List.set_cons_succ]
            refine wpAnyH_take (i := 3) (oi := { dst := some 42, op := Op.move (Operand.tmp 1), type := 42, pos := "l09_tokens.go:95", after := #[{ on := 2, ground := Ground.guard }], guard := some (2, true) }) (v := ?_) rfl (by kernel_rfl) (by kernel_rfl) (by kernel_rfl) (fun _ _ _ h => h) (Or.inl ⟨by rfl, ?_⟩) (by assumption) ?_
            rotate_left
            · (intro w hSw; (try dsimp only at hSw); go_simp; try with_reducible rfl)
            try simp only [Act.put, List.setIfInBounds_toArray, List.set_cons_zero, List.set_cons_succ]
            refine wpAnyH_take (i := 4) (oi := { dst := some 43, op := Op.move (Operand.tmp 5), type := 3, pos := "l09_tokens.go:95", after := #[{ on := 2, ground := Ground.guard }], guard := some (2, true) }) (v := ?_) rfl (by kernel_rfl) (by kernel_rfl) (by kernel_rfl) (fun _ _ _ h => h) (Or.inl ⟨by rfl, ?_⟩) (by assumption) ?_
            rotate_left
            · (intro w hSw; (try dsimp only at hSw); go_simp; try with_reducible rfl)
            try simp only [Act.put, List.setIfInBounds_toArray, List.set_cons_zero, List.set_cons_succ]
            refine wpAnyH_take (i := 5) (oi := { dst := some 44, op := Op.binOp BinOp.sub 3 (Operand.tmp 43) (Operand.const (Value.int IntKind.i64 1)) 3, type := 3, pos := "l09_tokens.go:95", after := #[{ on := 4, ground := Ground.data }, { on := 2, ground := Ground.guard }], guard := some (2, true) }) (v := ?_) rfl (by kernel_rfl) (by kernel_rfl) (by kernel_rfl) (fun _ _ _ h => h) (Or.inl ⟨by rfl, ?_⟩) (by assumption) ?_
            rotate_left
            · (intro w hSw; (try dsimp only at hSw); go_simp; try with_reducible rfl)
            try simp only [Act.put, List.setIfInBounds_toArray, List.set_cons_zero, List.set_cons_succ]
            refine wpAnyH_take (i := 6) (oi := { dst := some 45, op := Op.indexAddr 42 (Operand.tmp 42) (Operand.tmp 44), type := 0, pos := "l09_tokens.go:95", after := #[{ on := 3, ground := Ground.data }, { on := 5, ground := Ground.data }, { on := 2, ground := Ground.guard }], guard := some (2, true) }) (v := ?_) rfl (by kernel_rfl) (by kernel_rfl) (by kernel_rfl) (fun _ _ _ h => h) (Or.inl ⟨by rfl, ?_⟩) (by assumption) ?_
            rotate_left
            · (intro w hSw; (try dsimp only at hSw); go_simp; try with_reducible rfl)
            try simp only [Act.put, List.setIfInBounds_toArray, List.set_cons_zero, List.set_cons_succ]
            refine wpAnyH_take (i := 7) (oi := { dst := some 46, op := Op.fieldAddr 72 (Operand.tmp 45) 0, type := 0, pos := "l09_tokens.go:95", after := #[{ on := 6, ground := Ground.data }, { on := 2, ground := Ground.guard }], guard := some (2, true) }) (v := ?_) rfl (by kernel_rfl) (by kernel_rfl) (by kernel_rfl) (fun _ _ _ h => h) (Or.inl ⟨by rfl, ?_⟩) (by assumption) ?_
            rotate_left
            · (intro w hSw; (try dsimp only at hSw); go_simp; try with_reducible rfl)
            try simp only [Act.put, List.setIfInBounds_toArray, List.set_cons_zero, List.set_cons_succ]
            refine wpAnyH_take (i := 8) (oi := { dst := some 47, op := Op.load 44 (Operand.tmp 46), type := 44, pos := "l09_tokens.go:95", after := #[{ on := 7, ground := Ground.data }, { on := 2, ground := Ground.guard }], guard := some (2, true) }) (v := ?_) rfl (by kernel_rfl) (by kernel_rfl) (by kernel_rfl) (fun _ _ _ h => h) (Or.inl ⟨by rfl, ?_⟩) (by assumption) ?_
            rotate_left
            · (intro w hSw; (try dsimp only at hSw); go_simp; try with_reducible rfl)
            try simp only [Act.put, List.setIfInBounds_toArray, List.set_cons_zero, List.set_cons_succ]
            refine wpAnyH_take (i := 9) (oi := { dst := some 48, op := Op.fieldAddr 72 (Operand.tmp 6) 0, type := 0, pos := "l09_tokens.go:95", after := #[{ on := 2, ground := Ground.guard }], guard := some (2, true) }) (v := ?_) rfl (by kernel_rfl) (by kernel_rfl) (by kernel_rfl) (fun _ _ _ h => h) (Or.inl ⟨by rfl, ?_⟩) (by assumption) ?_
            rotate_left
            · (intro w hSw; (try dsimp only at hSw); go_simp; try with_reducible rfl)
            try simp only [Act.put, List.setIfInBounds_toArray, List.set_cons_zero, List.set_cons_succ]
            refine wpAnyH_take (i := 10) (oi := { dst := some 49, op := Op.load 44 (Operand.tmp 48), type := 44, pos := "l09_tokens.go:95", after := #[{ on := 9, ground := Ground.data }, { on := 2, ground := Ground.guard }], guard := some (2, true) }) (v := ?_) rfl (by kernel_rfl) (by kernel_rfl) (by kernel_rfl) (fun _ _ _ h => h) (Or.inl ⟨by rfl, ?_⟩) (by assumption) ?_
            rotate_left
            · (intro w hSw; (try dsimp only at hSw); go_simp; try with_reducible rfl)
            try simp only [Act.put, List.setIfInBounds_toArray, List.set_cons_zero, List.set_cons_succ]
            refine wpAnyH_ready (rs := [11]) (by kernel_rfl) (by simp) ?_
            refine AllReadyH.cons (i := 11) (o := { dst := some 50, op := Op.call { callee := Callee.value (Operand.func 63), args := #[Operand.tmp 47, Operand.tmp 49], argTypes := #[44, 44] }, type := 4, pos := "l09_tokens.go:95", after := #[{ on := 8, ground := Ground.data }, { on := 10, ground := Ground.data }, { on := 2, ground := Ground.chain }, { on := 2, ground := Ground.guard }], guard := some (2, true) }) rfl (fun K hK => ?_) AllReadyH.nil
            go_simp
            refine (TokenLess_c _ _ _ _ xs0 xs _ ((unhide I0).call hHeld.bel) ((unhide I1).call hHeld.bel)).mono ?_
            rintro e w3 ⟨rfl, hb⟩
            rw [unhide LS]
            refine hK.out _ _ (M6.call hHeld hb) (fun hHeld => ?_)
            clear hK K
            try simp only [Act.put, List.setIfInBounds_toArray, List.set_cons_zero, List.set_cons_succ]
            refine wpAnyH_take (i := 12) (oi := { dst := some 51, op := Op.unOp UnOp.not 4 (Operand.tmp 50), type := 4, pos := "l09_tokens.go:95", after := #[{ on := 11, ground := Ground.data }, { on := 2, ground := Ground.guard }], guard := some (2, true) }) (v := ?_) rfl (by kernel_rfl) (by kernel_rfl) (by kernel_rfl) (fun _ _ _ h => h) (Or.inl ⟨by rfl, ?_⟩) (by assumption) ?_
            rotate_left
            · (intro w hSw; (try dsimp only at hSw); go_simp; try with_reducible rfl)
            try simp only [Act.put, List.setIfInBounds_toArray, List.set_cons_zero, List.set_cons_succ]
            refine wpAnyH_take (i := 13) (oi := { dst := some 52, op := Op.pick (Operand.tmp 41) (Operand.tmp 51) (Operand.const (Value.bool false)), type := 4, pos := "l09_tokens.go:95", after := #[{ on := 2, ground := Ground.data }, { on := 12, ground := Ground.data }], guard := none }) (v := ?_) rfl (by kernel_rfl) (by kernel_rfl) (by kernel_rfl) (fun _ _ _ h => h) (Or.inl ⟨by rfl, ?_⟩) (by assumption) ?_
            rotate_left
            · (intro w hSw; (try dsimp only at hSw); go_simp; try with_reducible rfl)
            try simp only [Act.put, List.setIfInBounds_toArray, List.set_cons_zero, List.set_cons_succ]
            refine wpAnyH_done (by kernel_rfl) ?_ _
            have E := hide (show okAt vs fs rs ps _ = true by rw [unhide OKE]; rw [unhide TK, unhide TB, unhide LV]; rfl)
            have HQ := hide hHeld.bel
            have HQT := hide hHeld.c3
            clear hHeld
            go_wp2
            go_roundw
            case rel => exact ⟨(j + 1) + 1, by omega, by go_num, fun m h1 => by
              by_cases e : m = (j + 1)
              · subst e; exact unhide E
              · exact unhide HA m (by omega), unhide HQT, unhide HQ⟩
            case measure => simp [intOf]; omega
      · obtain rfl : k = L := by omega
        have E : Hid (r = true) := by unfold Hid; rw [unhide HRR]; exact partsB_all (unhide HD) (by rw [← unhide HL]; omega) (fun m hm => unhide HA m (by rw [unhide HL]; exact hm))
        go_wp2
        go_ret
        exact ⟨by rw [unhide E]; rfl, unhide HB⟩
  · have E : Hid (r = false) := by
      unfold Hid; rw [unhide HRR, partsB]
      have : decide (ps.length ≤ 100) = false := decide_eq_false (by rw [← unhide HL]; omega)
      rw [this, Bool.false_and, Bool.and_false]
    go_wp2
    go_ret
    exact ⟨by rw [unhide E]; rfl, unhide HK⟩
end Go.Proofs.YthldhjifnpfmiaaGreatDoor
