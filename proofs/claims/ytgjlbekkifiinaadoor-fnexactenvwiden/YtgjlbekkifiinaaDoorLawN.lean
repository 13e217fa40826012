/- The law on EnvWiden: its walk. -/
import Derived.Test.YtgjlbekkifiinaaDoorLawV
import Derived.Test.YtgjlbekkifiinaaDoorWdZ
namespace Go.Proofs.YtgjlbekkifiinaaDoor
open Go.RowKit
set_option linter.unusedSimpArgs false
set_option linter.unusedVariables false

set_option maxRecDepth 20000 in
set_option maxHeartbeats 32000000 in
theorem lawEnvWiden (va fa ra : Option Addr) (vc fc rc : Nat) (vs fs : List ByteArray) (rs : List (ByteArray × Int)) (li : Bool) (xa ya : Option Addr) (xc yc : Nat) (xs ys : List (Int × Int)) (lj : Bool) (xa2 ya2 : Option Addr) (xc2 yc2 : Nat) (xs2 ys2 : List (Int × Int)) (sa : Option Addr) (sc : Nat) (st : List Int) (w : World) (hw : KW w) (hv : StrsA w va vs) (hf : StrsA w fa fs) (hr : ArrsA w ra rs) (hx : IvsA w xa xs) (hy : IvsA w ya ys) (hx2 : IvsA w xa2 xs2) (hy2 : IvsA w ya2 ys2) (hst : IntsA w sa st) :
    Calls Tryd.prog 6 #[.agg #[.slice va vs.length vc, .slice fa fs.length fc, .slice ra rs.length rc], .agg #[.bool li, .slice xa xs.length xc, .slice ya ys.length yc], .agg #[.bool lj, .slice xa2 xs2.length xc2, .slice ya2 ys2.length yc2], .slice sa st.length sc] w fun e w' => e = .returned (.bool true) ∧ Below w.heap.size w w' := by
  have HW := hide hw
  have HV := hide hv
  have HF := hide hf
  have HR := hide hr
  have HX := hide hx
  have HY := hide hy
  have HX2 := hide hx2
  have HY2 := hide hy2
  have HB := hide (B9.new w (.slice va vs.length vc) (.slice fa fs.length fc) (.slice ra rs.length rc) (.bool li) (.slice xa xs.length xc) (.slice ya ys.length yc) (.bool lj) (.slice xa2 xs2.length xc2) (.slice ya2 ys2.length yc2) 25 28 28)
  have HI := hide hst
  have hst9 : (st.length : Int) ≤ 9223372036854775807 := by have := hst.1; omega
  clear hw hv hf hr hx hy hx2 hy2 hst
  go_enter Tryd.func6, Tryd.ntmps6
  go_upto_region 1 with fail
  generalize ((w.alloc (Obj.cells #[.slice va vs.length vc, .slice fa fs.length fc, .slice ra rs.length rc] 25)).alloc (Obj.cells #[.bool li, .slice xa xs.length xc, .slice ya ys.length yc] 28)).alloc (Obj.cells #[.bool lj, .slice xa2 xs2.length xc2, .slice ya2 ys2.length yc2] 28) = k0 at HB ⊢
  by_cases hsm : (st.length : Int) ≤ 1048576
  case neg =>
    have hsm' : (1048576 : Int) < (st.length : Int) := by omega
    clear hsm
    go_wp2
    go_ret
    exact ⟨rfl, (unhide HB).2.2.2⟩
  have hsm' : ¬ ((1048576 : Int) < (st.length : Int)) := by omega
  have SI := hide (Ints.ofA (unhide HI) hsm)
  have ms : st.length ≤ 1048576 := (unhide SI).1
  clear HI hsm
  have p0 := (unhide HB).1.1
  have p1 := (unhide HB).1.2.1
  have p2 := (unhide HB).1.2.2.1
  go_wp2_with fail
  clear hsm' p0 p1 p2
  refine (szDecl_c va fa ra vc fc rc vs fs rs 1048576 (by decide) (by decide) _ ((unhide HV).call (unhide HB).2.2.2) ((unhide HF).call (unhide HB).2.2.2) ((unhide HR).call (unhide HB).2.2.2)).mono ?_
  rintro e v0 ⟨rfl, kb⟩
  have HB := hide ((unhide HB).call kb)
  have hok := @szD_ok vs fs rs 1048576 (by decide) (by decide)
  clear kb
  generalize szD vs fs rs 1048576 = left0 at hok ⊢
  by_cases hn : left0 < 0
  · clear hok
    go_wp2
    go_ret
    exact ⟨rfl, (unhide HB).2.2.2⟩
  obtain ⟨⟨l1, l2, l3⟩, hz, l4_0⟩ := hok (by omega)
  have SV := hide (Strs.ofA (unhide HV) l1)
  have SF := hide (Strs.ofA (unhide HF) l2)
  have SR := hide (Arrs.ofA (unhide HR) l3)
  have HZ := hide hz
  have ln_0 : 0 ≤ left0 := by omega
  have mv : vs.length ≤ 1048576 := (unhide SV).1
  have mf : fs.length ≤ 1048576 := (unhide SF).1
  have mr : rs.length ≤ 1048576 := (unhide SR).1
  clear hok hz HV HF HR hn l1 l2 l3
  have p0 := (unhide HB).2.1.1
  have p1 := (unhide HB).2.1.2.1
  have p2 := (unhide HB).2.1.2.2.1
  go_wp2_with fail
  refine (szEnv_c li xa ya xc yc xs.length ys.length left0 ln_0 l4_0 _ (unhide HX).1 (unhide HY).1).mono ?_
  rintro e v1 ⟨rfl, kb⟩
  have HB := hide ((unhide HB).call kb)
  have hok := szE_le xs.length ys.length left0 ln_0
  clear kb p0 p1 p2
  generalize szE xs.length ys.length left0 = left1 at hok ⊢
  by_cases hn : left1 < 0
  · clear hok
    go_wp2
    go_ret
    exact ⟨rfl, (unhide HB).2.2.2⟩
  obtain ⟨l1, l2⟩ := hok.2.2 (by omega)
  have SX := hide (Ivs.ofA (unhide HX) (by omega))
  have SY := hide (Ivs.ofA (unhide HY) (by omega))
  have mx : xs.length ≤ 1048576 := (unhide SX).1
  have my : ys.length ≤ 1048576 := (unhide SY).1
  have ln_1 : 0 ≤ left1 := by omega
  have l4_1 : left1 ≤ 1048576 := by omega
  clear hok HX HY hn l1 l2 ln_0 l4_0
  have p0 := (unhide HB).2.2.1.1
  have p1 := (unhide HB).2.2.1.2.1
  have p2 := (unhide HB).2.2.1.2.2.1
  go_wp2_with fail
  refine (szEnv_c lj xa2 ya2 xc2 yc2 xs2.length ys2.length left1 ln_1 l4_1 _ (unhide HX2).1 (unhide HY2).1).mono ?_
  rintro e v2 ⟨rfl, kb⟩
  have HB := hide ((unhide HB).call kb)
  have hok := szE_le xs2.length ys2.length left1 ln_1
  clear kb p0 p1 p2
  generalize szE xs2.length ys2.length left1 = left2 at hok ⊢
  by_cases hn : left2 < 0
  · clear hok
    go_wp2
    go_ret
    exact ⟨rfl, (unhide HB).2.2.2⟩
  obtain ⟨l1, l2⟩ := hok.2.2 (by omega)
  have SX2 := hide (Ivs.ofA (unhide HX2) (by omega))
  have SY2 := hide (Ivs.ofA (unhide HY2) (by omega))
  have mx2 : xs2.length ≤ 1048576 := (unhide SX2).1
  have my2 : ys2.length ≤ 1048576 := (unhide SY2).1
  have ln_2 : 0 ≤ left2 := by omega
  have l4_2 : left2 ≤ 1048576 := by omega
  clear hok HX2 HY2 hn l1 l2 ln_1 l4_1
  obtain ⟨ok, HOKE⟩ : ∃ ok, Hid (ok = wdnL st vs fs rs li xs ys lj xs2 ys2) := ⟨_, rfl⟩
  obtain ⟨X, HXE⟩ : ∃ X, Hid (X = (wdnV st vs fs rs li xs ys lj xs2 ys2).1) := ⟨_, rfl⟩
  obtain ⟨Y, HYE⟩ : ∃ Y, Hid (Y = (wdnV st vs fs rs li xs ys lj xs2 ys2).2) := ⟨_, rfl⟩
  have mX : X.length ≤ 1048576 := by rw [unhide HXE]; exact (wdnV_len st vs fs rs li xs ys lj xs2 ys2 1048576 ⟨mx, my, mx2, my2⟩).1
  have mY : Y.length ≤ 1048576 := by rw [unhide HYE]; exact (wdnV_len st vs fs rs li xs ys lj xs2 ys2 1048576 ⟨mx, my, mx2, my2⟩).2
  have HS : Hid (B9 v2 w.heap.size (w.heap.size + 1) (w.heap.size + 2) (.slice va vs.length vc) (.slice fa fs.length fc) (.slice ra rs.length rc) (.bool li) (.slice xa xs.length xc) (.slice ya ys.length yc) (.bool lj) (.slice xa2 xs2.length xc2) (.slice ya2 ys2.length yc2) v2) := ⟨(unhide HB).1, (unhide HB).2.1, (unhide HB).2.2.1, Below.refl _ _⟩
  have HP : Hid (w.heap.size < v2.heap.size ∧ w.heap.size + 1 < v2.heap.size ∧ w.heap.size + 2 < v2.heap.size) := ⟨(unhide HB).1.lt, (unhide HB).2.1.lt, (unhide HB).2.2.1.lt⟩
  have SVU := hide ((unhide SV).call (unhide HB).2.2.2)
  have SFU := hide ((unhide SF).call (unhide HB).2.2.2)
  have SRU := hide ((unhide SR).call (unhide HB).2.2.2)
  have SXU := hide ((unhide SX).call (unhide HB).2.2.2)
  have SYU := hide ((unhide SY).call (unhide HB).2.2.2)
  have SX2U := hide ((unhide SX2).call (unhide HB).2.2.2)
  have SY2U := hide ((unhide SY2).call (unhide HB).2.2.2)
  have SIU := hide ((unhide SI).call (unhide HB).2.2.2)
  have HWU := hide ((unhide HW).call (unhide HB).2.2.2)
  go_upto_region 13 with fail
  go_cut [10] (fun q wc => ∃ g B T oa ca ob cb, q = .pointer (some ⟨g, 0, none⟩) ∧ Ans g B T ok oa ca ob cb X Y wc ∧ v2.heap.size ≤ B ∧ v2.heap.size ≤ g ∧ Below v2.heap.size v2 wc)
  case first =>
    have hk := hide (G9.drew (G9.of (unhide HS)))
    obtain ⟨wz0, hw0⟩ : ∃ x, x = v2.drew := ⟨_, rfl⟩
    rw [← hw0] at hk
    refine wp_region_held_drew (S := (G9 v2 (w.heap.size) (w.heap.size + 1) (w.heap.size + 2) (.slice va vs.length vc) (.slice fa fs.length fc) (.slice ra rs.length rc) (.bool li) (.slice xa xs.length xc) (.slice ya ys.length yc) (.bool lj) (.slice xa2 xs2.length xc2) (.slice ya2 ys2.length yc2))) (by kernel_rfl) (by rw [← hw0]; exact unhide hk) (fun hHeld => ?_)
    rw [← hw0] at hHeld ⊢
    clear hw0
    refine wpAnyH_take (i := 0) (oi := { dst := some 38, op := Op.load 25 (Operand.tmp 4), type := 25, pos := "exact.go:2659", after := #[], guard := none }) (v := ?_) rfl (by kernel_rfl) (by kernel_rfl) (by kernel_rfl) (fun _ _ _ h => h) (Or.inl ⟨by rfl, ?_⟩) (by assumption) ?_
    rotate_left
    · (intro w hSw; (try dsimp only at hSw); go_simp; try with_reducible rfl)
    try simp only [Act.put, List.setIfInBounds_toArray, List.set_cons_zero, List.set_cons_succ]
    refine wpAnyH_take (i := 2) (oi := { dst := some 40, op := Op.load 28 (Operand.tmp 5), type := 28, pos := "exact.go:2659", after := #[], guard := none }) (v := ?_) rfl (by kernel_rfl) (by kernel_rfl) (by kernel_rfl) (fun _ _ _ h => h) (Or.inl ⟨by rfl, ?_⟩) (by assumption) ?_
    rotate_left
    · (intro w hSw; (try dsimp only at hSw); go_simp; try with_reducible rfl)
    try simp only [Act.put, List.setIfInBounds_toArray, List.set_cons_zero, List.set_cons_succ]
    refine wpAnyH_take (i := 4) (oi := { dst := some 42, op := Op.load 28 (Operand.tmp 6), type := 28, pos := "exact.go:2659", after := #[], guard := none }) (v := ?_) rfl (by kernel_rfl) (by kernel_rfl) (by kernel_rfl) (fun _ _ _ h => h) (Or.inl ⟨by rfl, ?_⟩) (by assumption) ?_
    rotate_left
    · (intro w hSw; (try dsimp only at hSw); go_simp; try with_reducible rfl)
    try simp only [Act.put, List.setIfInBounds_toArray, List.set_cons_zero, List.set_cons_succ]
    refine wpAnyH_take (i := 6) (oi := { dst := some 44, op := Op.move (Operand.tmp 3), type := 29, pos := "exact.go:2659", after := #[], guard := none }) (v := ?_) rfl (by kernel_rfl) (by kernel_rfl) (by kernel_rfl) (fun _ _ _ h => h) (Or.inl ⟨by rfl, ?_⟩) (by assumption) ?_
    rotate_left
    · (intro w hSw; (try dsimp only at hSw); go_simp; try with_reducible rfl)
    try simp only [Act.put, List.setIfInBounds_toArray, List.set_cons_zero, List.set_cons_succ]
    refine wpAnyH_ready (rs := [1, 9]) (by kernel_rfl) (by simp) ?_
    refine AllReadyH.cons (i := 1) (o := { dst := some 39, op := Op.call { callee := Callee.value (Operand.func 11), args := #[Operand.tmp 38], argTypes := #[25] }, type := 40, pos := "exact.go:2659", after := #[{ on := 0, ground := Ground.data }], guard := none }) rfl (fun K hK => ?_) (AllReadyH.cons (i := 9) (o := { dst := some 10, op := Op.alloc 44, type := 0, pos := "exact.go:2659", after := #[], guard := none }) rfl (fun K hK => ?_) AllReadyH.nil)
    · go_simp
      refine (toDecl_c va fa ra vc fc rc vs fs rs _ ((unhide SVU).call (unhide hk).bel) ((unhide SFU).call (unhide hk).bel) ((unhide SRU).call (unhide hk).bel)).mono ?_
      rintro e wz1 ⟨b1, b2, b3, rfl, Q1, Q2, Q3, _, hb⟩
      have hk := hide ((unhide hk).call hb)
      clear hb
      have HQ1 := hide Q1
      clear Q1
      have HQ2 := hide Q2
      clear Q2
      have HQ3 := hide Q3
      clear Q3
      refine hK.out _ _ (unhide hk) (fun hHeld => ?_)
      clear hK K
      try simp only [Act.put, List.setIfInBounds_toArray, List.set_cons_zero, List.set_cons_succ]
      refine wpAnyH_ready (rs := [3, 9]) (by kernel_rfl) (by simp) ?_
      refine AllReadyH.cons (i := 3) (o := { dst := some 41, op := Op.call { callee := Callee.value (Operand.func 12), args := #[Operand.tmp 40], argTypes := #[28] }, type := 44, pos := "exact.go:2659", after := #[{ on := 2, ground := Ground.data }, { on := 1, ground := Ground.chain }], guard := none }) rfl (fun K hK => ?_) (AllReadyH.cons (i := 9) (o := { dst := some 10, op := Op.alloc 44, type := 0, pos := "exact.go:2659", after := #[], guard := none }) rfl (fun K hK => ?_) AllReadyH.nil)
      · go_simp
        refine (toEnv_c li xa ya xc yc xs ys _ ((unhide SXU).call (unhide hk).bel) ((unhide SYU).call (unhide hk).bel)).mono ?_
        rintro e wz2 ⟨d1, d2, rfl, Q4, Q5, _, hb⟩
        have hk := hide ((unhide hk).call hb)
        have HQ1 := hide ((unhide HQ1).call hb)
        have HQ2 := hide ((unhide HQ2).call hb)
        have HQ3 := hide ((unhide HQ3).call hb)
        clear hb
        have HQ4 := hide Q4
        clear Q4
        have HQ5 := hide Q5
        clear Q5
        refine hK.out _ _ (unhide hk) (fun hHeld => ?_)
        clear hK K
        try simp only [Act.put, List.setIfInBounds_toArray, List.set_cons_zero, List.set_cons_succ]
        refine wpAnyH_ready (rs := [5, 9]) (by kernel_rfl) (by simp) ?_
        refine AllReadyH.cons (i := 5) (o := { dst := some 43, op := Op.call { callee := Callee.value (Operand.func 12), args := #[Operand.tmp 42], argTypes := #[28] }, type := 44, pos := "exact.go:2659", after := #[{ on := 4, ground := Ground.data }, { on := 3, ground := Ground.chain }], guard := none }) rfl (fun K hK => ?_) (AllReadyH.cons (i := 9) (o := { dst := some 10, op := Op.alloc 44, type := 0, pos := "exact.go:2659", after := #[], guard := none }) rfl (fun K hK => ?_) AllReadyH.nil)
        · go_simp
          refine (toEnv_c lj xa2 ya2 xc2 yc2 xs2 ys2 _ ((unhide SX2U).call (unhide hk).bel) ((unhide SY2U).call (unhide hk).bel)).mono ?_
          rintro e wz3 ⟨d3, d4, rfl, QA, QB, _, hb⟩
          have hk := hide ((unhide hk).call hb)
          have HQ1 := hide ((unhide HQ1).call hb)
          have HQ2 := hide ((unhide HQ2).call hb)
          have HQ3 := hide ((unhide HQ3).call hb)
          have HQ4 := hide ((unhide HQ4).call hb)
          have HQ5 := hide ((unhide HQ5).call hb)
          clear hb
          have HQA := hide QA
          clear QA
          have HQB := hide QB
          clear QB
          refine hK.out _ _ (unhide hk) (fun hHeld => ?_)
          clear hK K
          try simp only [Act.put, List.setIfInBounds_toArray, List.set_cons_zero, List.set_cons_succ]
          refine wpAnyH_ready (rs := [7, 9]) (by kernel_rfl) (by simp) ?_
          refine AllReadyH.cons (i := 7) (o := { dst := some 45, op := Op.call { callee := Callee.value (Operand.func 26), args := #[Operand.tmp 44], argTypes := #[29] }, type := 29, pos := "exact.go:2659", after := #[{ on := 6, ground := Ground.data }, { on := 5, ground := Ground.chain }], guard := none }) rfl (fun K hK => ?_) (AllReadyH.cons (i := 9) (o := { dst := some 10, op := Op.alloc 44, type := 0, pos := "exact.go:2659", after := #[], guard := none }) rfl (fun K hK => ?_) AllReadyH.nil)
          · go_simp
            refine (toInt64S_c sa sc st _ ((unhide SIU).call (unhide hk).bel)).mono ?_
            rintro e wz4 ⟨rfl, QC, hb⟩
            generalize hib : wz3.heap.size = ib at QC ⊢
            clear hib
            have hk := hide ((unhide hk).call hb)
            have HQ1 := hide ((unhide HQ1).call hb)
            have HQ2 := hide ((unhide HQ2).call hb)
            have HQ3 := hide ((unhide HQ3).call hb)
            have HQ4 := hide ((unhide HQ4).call hb)
            have HQ5 := hide ((unhide HQ5).call hb)
            have HQA := hide ((unhide HQA).call hb)
            have HQB := hide ((unhide HQB).call hb)
            clear hb
            have HQC := hide QC
            clear QC
            refine hK.out _ _ (unhide hk) (fun hHeld => ?_)
            clear hK K
            try simp only [Act.put, List.setIfInBounds_toArray, List.set_cons_zero, List.set_cons_succ]
            refine wpAnyH_ready (rs := [8, 9]) (by kernel_rfl) (by simp) ?_
            refine AllReadyH.cons (i := 8) (o := { dst := some 46, op := Op.call { callee := Callee.value (Operand.func 25), args := #[Operand.tmp 39, Operand.tmp 41, Operand.tmp 43, Operand.tmp 45], argTypes := #[40, 44, 44, 29] }, type := 44, pos := "exact.go:2659", after := #[{ on := 1, ground := Ground.data }, { on := 3, ground := Ground.data }, { on := 5, ground := Ground.data }, { on := 7, ground := Ground.data }, { on := 7, ground := Ground.chain }], guard := none }) rfl (fun K hK => ?_) (AllReadyH.cons (i := 9) (o := { dst := some 10, op := Op.alloc 44, type := 0, pos := "exact.go:2659", after := #[], guard := none }) rfl (fun K hK => ?_) AllReadyH.nil)
            · go_simp
              refine (sEnvWiden_c b1 b2 b3 _ _ _ vs fs rs li d1 d2 _ _ xs ys lj d3 d4 _ _ xs2 ys2 _ _ st _ (unhide HQ1).1 (unhide HQ2).1 (unhide HQ3).1 (unhide HZ) (unhide HQ4).1 (unhide HQ5).1 (unhide HQA).1 (unhide HQB).1 (unhide HQC).1).mono ?_
              rintro e wz5 ⟨oa, ca, ob, cb, rfl, RE, hb⟩
              rw [← unhide HOKE, ← unhide HXE, ← unhide HYE]
              rw [← unhide HXE, ← unhide HYE] at RE
              have HR := RowsT.of RE
              have hlb : v2.heap.size ≤ wz4.heap.size := (unhide hk).bel.size
              generalize wz4.heap.size = Bz at HR hlb
              generalize wz5.heap.size = Tz at HR
              have HR := hide HR
              have HLB := hide hlb
              clear hlb RE
              have hk := hide ((unhide hk).call hb)
              have HQ1 := hide ((unhide HQ1).call hb)
              have HQ2 := hide ((unhide HQ2).call hb)
              have HQ3 := hide ((unhide HQ3).call hb)
              have HQ4 := hide ((unhide HQ4).call hb)
              have HQ5 := hide ((unhide HQ5).call hb)
              have HQA := hide ((unhide HQA).call hb)
              have HQB := hide ((unhide HQB).call hb)
              have HQC := hide ((unhide HQC).call hb)
              clear hb
              refine hK.out _ _ (unhide hk) (fun hHeld => ?_)
              clear hK K
              try simp only [Act.put, List.setIfInBounds_toArray, List.set_cons_zero, List.set_cons_succ]
              refine wpAnyH_ready (rs := [9]) (by kernel_rfl) (by simp) ?_
              refine AllReadyH.cons (i := 9) (o := { dst := some 10, op := Op.alloc 44, type := 0, pos := "exact.go:2659", after := #[], guard := none }) rfl (fun K hK => ?_) AllReadyH.nil
              have HA := C3.new wz5 (.bool false) (.slice none 0 0) (.slice none 0 0) 44
              have hlg : v2.heap.size ≤ wz5.heap.size := (unhide hk).bel.size
              have hn : Tz ≤ wz5.heap.size := (unhide HR).2.2.2
              have ka := (Below.refl _ wz5).alloc (Nat.le_refl _) (Obj.cells #[.bool false, .slice none 0 0, .slice none 0 0] 44)
              have hk := hide ((unhide hk).call ka)
              have HQ1 := hide ((unhide HQ1).call ka)
              have HQ2 := hide ((unhide HQ2).call ka)
              have HQ3 := hide ((unhide HQ3).call ka)
              have HQ4 := hide ((unhide HQ4).call ka)
              have HQ5 := hide ((unhide HQ5).call ka)
              have HQA := hide ((unhide HQA).call ka)
              have HQB := hide ((unhide HQB).call ka)
              have HQC := hide ((unhide HQC).call ka)
              have HR := hide ((unhide HR).call ka)
              clear ka
              go_simp
              refine hK.out _ _ (unhide hk) (fun hHeld => ?_)
              clear hK K
              try simp only [Act.put, List.setIfInBounds_toArray, List.set_cons_zero, List.set_cons_succ]
              clear hHeld
              generalize hg : wz5.alloc (Obj.cells #[.bool false, .slice none 0 0, .slice none 0 0] 44) = wz6 at HA hk HQ1 HQ2 HQ3 HQ4 HQ5 HQA HQB HQC HR ⊢
              clear hg
              have hHeld := unhide hk
              generalize wz5.heap.size = bz at HA hlg hn ⊢
              have HA := hide HA
              have HLG := hide hlg
              have HN : Hid (bz < Bz ∨ Tz ≤ bz) := Or.inr hn
              clear hlg hn
              refine wpAnyH_ready (rs := [10]) (by kernel_rfl) (by simp) ?_
              refine AllReadyH.cons (i := 10) (o := { dst := none, op := Op.store 44 (Operand.tmp 10) (Operand.tmp 46), type := 0, pos := "exact.go:2659", after := #[{ on := 9, ground := Ground.data }, { on := 8, ground := Ground.data }, { on := 8, ground := Ground.chain }, { on := 0, ground := Ground.phase }, { on := 1, ground := Ground.phase }, { on := 2, ground := Ground.phase }, { on := 3, ground := Ground.phase }, { on := 4, ground := Ground.phase }, { on := 5, ground := Ground.phase }, { on := 6, ground := Ground.phase }, { on := 7, ground := Ground.phase }, { on := 8, ground := Ground.phase }, { on := 9, ground := Ground.phase }], guard := none }) rfl (fun K hK => ?_) AllReadyH.nil
              obtain ⟨c0, c1_, c2_, cf⟩ := unhide HA
              have f0 := cf 0
              have f1 := cf 1
              have f2 := cf 2
              clear cf
              go_simp
              refine hK.out _ _ ?_ (fun hHeld => ?_)
              · exact G9.of ((((unhide hk).b9.set (unhide HP).1 (unhide HP).2.1 (unhide HP).2.2 (unhide HLG) _).set (unhide HP).1 (unhide HP).2.1 (unhide HP).2.2 (unhide HLG) _).set (unhide HP).1 (unhide HP).2.1 (unhide HP).2.2 (unhide HLG) _)
              clear hK K c0 c1_ c2_ f0 f1 f2 hHeld
              try simp only [Act.put, List.setIfInBounds_toArray, List.set_cons_zero, List.set_cons_succ]
              refine wpAnyH_done (by kernel_rfl) ?_ _
              go_wp2_with fail
              go_meet
              exact ⟨bz, Bz, Tz, oa, ca, ob, cb, rfl, Ans.stored (unhide HA) (unhide HR) (unhide HN), unhide HLB, unhide HLG, bel_set (bel_set (bel_set (unhide hk).bel (unhide HLG)) (unhide HLG)) (unhide HLG)⟩
            · have HA := C3.new wz4 (.bool false) (.slice none 0 0) (.slice none 0 0) 44
              have hlg : v2.heap.size ≤ wz4.heap.size := (unhide hk).bel.size
              have ka := (Below.refl _ wz4).alloc (Nat.le_refl _) (Obj.cells #[.bool false, .slice none 0 0, .slice none 0 0] 44)
              have hk := hide ((unhide hk).call ka)
              have HQ1 := hide ((unhide HQ1).call ka)
              have HQ2 := hide ((unhide HQ2).call ka)
              have HQ3 := hide ((unhide HQ3).call ka)
              have HQ4 := hide ((unhide HQ4).call ka)
              have HQ5 := hide ((unhide HQ5).call ka)
              have HQA := hide ((unhide HQA).call ka)
              have HQB := hide ((unhide HQB).call ka)
              have HQC := hide ((unhide HQC).call ka)
              clear ka
              go_simp
              refine hK.out _ _ (unhide hk) (fun hHeld => ?_)
              clear hK K
              try simp only [Act.put, List.setIfInBounds_toArray, List.set_cons_zero, List.set_cons_succ]
              clear hHeld
              generalize hg : wz4.alloc (Obj.cells #[.bool false, .slice none 0 0, .slice none 0 0] 44) = wz5 at HA hk HQ1 HQ2 HQ3 HQ4 HQ5 HQA HQB HQC ⊢
              clear hg
              have hHeld := unhide hk
              generalize wz4.heap.size = bz at HA hlg ⊢
              have HA := hide HA
              have HLG := hide hlg
              clear hlg
              refine wpAnyH_ready (rs := [8]) (by kernel_rfl) (by simp) ?_
              refine AllReadyH.cons (i := 8) (o := { dst := some 46, op := Op.call { callee := Callee.value (Operand.func 25), args := #[Operand.tmp 39, Operand.tmp 41, Operand.tmp 43, Operand.tmp 45], argTypes := #[40, 44, 44, 29] }, type := 44, pos := "exact.go:2659", after := #[{ on := 1, ground := Ground.data }, { on := 3, ground := Ground.data }, { on := 5, ground := Ground.data }, { on := 7, ground := Ground.data }, { on := 7, ground := Ground.chain }], guard := none }) rfl (fun K hK => ?_) AllReadyH.nil
              go_simp
              refine (sEnvWiden_c b1 b2 b3 _ _ _ vs fs rs li d1 d2 _ _ xs ys lj d3 d4 _ _ xs2 ys2 _ _ st _ (unhide HQ1).1 (unhide HQ2).1 (unhide HQ3).1 (unhide HZ) (unhide HQ4).1 (unhide HQ5).1 (unhide HQA).1 (unhide HQB).1 (unhide HQC).1).mono ?_
              rintro e wz6 ⟨oa, ca, ob, cb, rfl, RE, hb⟩
              rw [← unhide HOKE, ← unhide HXE, ← unhide HYE]
              rw [← unhide HXE, ← unhide HYE] at RE
              have HR := RowsT.of RE
              have hlb : v2.heap.size ≤ wz5.heap.size := (unhide hk).bel.size
              have hn : bz < wz5.heap.size := (unhide HA).lt
              generalize wz5.heap.size = Bz at HR hlb hn
              generalize wz6.heap.size = Tz at HR
              have HR := hide HR
              have HLB := hide hlb
              have HN : Hid (bz < Bz ∨ Tz ≤ bz) := Or.inl hn
              clear hlb RE hn
              have hk := hide ((unhide hk).call hb)
              have HQ1 := hide ((unhide HQ1).call hb)
              have HQ2 := hide ((unhide HQ2).call hb)
              have HQ3 := hide ((unhide HQ3).call hb)
              have HQ4 := hide ((unhide HQ4).call hb)
              have HQ5 := hide ((unhide HQ5).call hb)
              have HQA := hide ((unhide HQA).call hb)
              have HQB := hide ((unhide HQB).call hb)
              have HQC := hide ((unhide HQC).call hb)
              have HA := hide ((unhide HA).call hb)
              clear hb
              refine hK.out _ _ (unhide hk) (fun hHeld => ?_)
              clear hK K
              try simp only [Act.put, List.setIfInBounds_toArray, List.set_cons_zero, List.set_cons_succ]
              refine wpAnyH_ready (rs := [10]) (by kernel_rfl) (by simp) ?_
              refine AllReadyH.cons (i := 10) (o := { dst := none, op := Op.store 44 (Operand.tmp 10) (Operand.tmp 46), type := 0, pos := "exact.go:2659", after := #[{ on := 9, ground := Ground.data }, { on := 8, ground := Ground.data }, { on := 8, ground := Ground.chain }, { on := 0, ground := Ground.phase }, { on := 1, ground := Ground.phase }, { on := 2, ground := Ground.phase }, { on := 3, ground := Ground.phase }, { on := 4, ground := Ground.phase }, { on := 5, ground := Ground.phase }, { on := 6, ground := Ground.phase }, { on := 7, ground := Ground.phase }, { on := 8, ground := Ground.phase }, { on := 9, ground := Ground.phase }], guard := none }) rfl (fun K hK => ?_) AllReadyH.nil
              obtain ⟨c0, c1_, c2_, cf⟩ := unhide HA
              have f0 := cf 0
              have f1 := cf 1
              have f2 := cf 2
              clear cf
              go_simp
              refine hK.out _ _ ?_ (fun hHeld => ?_)
              · exact G9.of ((((unhide hk).b9.set (unhide HP).1 (unhide HP).2.1 (unhide HP).2.2 (unhide HLG) _).set (unhide HP).1 (unhide HP).2.1 (unhide HP).2.2 (unhide HLG) _).set (unhide HP).1 (unhide HP).2.1 (unhide HP).2.2 (unhide HLG) _)
              clear hK K c0 c1_ c2_ f0 f1 f2 hHeld
              try simp only [Act.put, List.setIfInBounds_toArray, List.set_cons_zero, List.set_cons_succ]
              refine wpAnyH_done (by kernel_rfl) ?_ _
              go_wp2_with fail
              go_meet
              exact ⟨bz, Bz, Tz, oa, ca, ob, cb, rfl, Ans.stored (unhide HA) (unhide HR) (unhide HN), unhide HLB, unhide HLG, bel_set (bel_set (bel_set (unhide hk).bel (unhide HLG)) (unhide HLG)) (unhide HLG)⟩
          · have HA := C3.new wz3 (.bool false) (.slice none 0 0) (.slice none 0 0) 44
            have hlg : v2.heap.size ≤ wz3.heap.size := (unhide hk).bel.size
            have ka := (Below.refl _ wz3).alloc (Nat.le_refl _) (Obj.cells #[.bool false, .slice none 0 0, .slice none 0 0] 44)
            have hk := hide ((unhide hk).call ka)
            have HQ1 := hide ((unhide HQ1).call ka)
            have HQ2 := hide ((unhide HQ2).call ka)
            have HQ3 := hide ((unhide HQ3).call ka)
            have HQ4 := hide ((unhide HQ4).call ka)
            have HQ5 := hide ((unhide HQ5).call ka)
            have HQA := hide ((unhide HQA).call ka)
            have HQB := hide ((unhide HQB).call ka)
            clear ka
            go_simp
            refine hK.out _ _ (unhide hk) (fun hHeld => ?_)
            clear hK K
            try simp only [Act.put, List.setIfInBounds_toArray, List.set_cons_zero, List.set_cons_succ]
            clear hHeld
            generalize hg : wz3.alloc (Obj.cells #[.bool false, .slice none 0 0, .slice none 0 0] 44) = wz4 at HA hk HQ1 HQ2 HQ3 HQ4 HQ5 HQA HQB ⊢
            clear hg
            have hHeld := unhide hk
            generalize wz3.heap.size = bz at HA hlg ⊢
            have HA := hide HA
            have HLG := hide hlg
            clear hlg
            refine wpAnyH_ready (rs := [7]) (by kernel_rfl) (by simp) ?_
            refine AllReadyH.cons (i := 7) (o := { dst := some 45, op := Op.call { callee := Callee.value (Operand.func 26), args := #[Operand.tmp 44], argTypes := #[29] }, type := 29, pos := "exact.go:2659", after := #[{ on := 6, ground := Ground.data }, { on := 5, ground := Ground.chain }], guard := none }) rfl (fun K hK => ?_) AllReadyH.nil
            go_simp
            refine (toInt64S_c sa sc st _ ((unhide SIU).call (unhide hk).bel)).mono ?_
            rintro e wz5 ⟨rfl, QC, hb⟩
            generalize hib : wz4.heap.size = ib at QC ⊢
            clear hib
            have hk := hide ((unhide hk).call hb)
            have HQ1 := hide ((unhide HQ1).call hb)
            have HQ2 := hide ((unhide HQ2).call hb)
            have HQ3 := hide ((unhide HQ3).call hb)
            have HQ4 := hide ((unhide HQ4).call hb)
            have HQ5 := hide ((unhide HQ5).call hb)
            have HQA := hide ((unhide HQA).call hb)
            have HQB := hide ((unhide HQB).call hb)
            have HA := hide ((unhide HA).call hb)
            clear hb
            have HQC := hide QC
            clear QC
            refine hK.out _ _ (unhide hk) (fun hHeld => ?_)
            clear hK K
            try simp only [Act.put, List.setIfInBounds_toArray, List.set_cons_zero, List.set_cons_succ]
            refine wpAnyH_ready (rs := [8]) (by kernel_rfl) (by simp) ?_
            refine AllReadyH.cons (i := 8) (o := { dst := some 46, op := Op.call { callee := Callee.value (Operand.func 25), args := #[Operand.tmp 39, Operand.tmp 41, Operand.tmp 43, Operand.tmp 45], argTypes := #[40, 44, 44, 29] }, type := 44, pos := "exact.go:2659", after := #[{ on := 1, ground := Ground.data }, { on := 3, ground := Ground.data }, { on := 5, ground := Ground.data }, { on := 7, ground := Ground.data }, { on := 7, ground := Ground.chain }], guard := none }) rfl (fun K hK => ?_) AllReadyH.nil
            go_simp
            refine (sEnvWiden_c b1 b2 b3 _ _ _ vs fs rs li d1 d2 _ _ xs ys lj d3 d4 _ _ xs2 ys2 _ _ st _ (unhide HQ1).1 (unhide HQ2).1 (unhide HQ3).1 (unhide HZ) (unhide HQ4).1 (unhide HQ5).1 (unhide HQA).1 (unhide HQB).1 (unhide HQC).1).mono ?_
            rintro e wz6 ⟨oa, ca, ob, cb, rfl, RE, hb⟩
            rw [← unhide HOKE, ← unhide HXE, ← unhide HYE]
            rw [← unhide HXE, ← unhide HYE] at RE
            have HR := RowsT.of RE
            have hlb : v2.heap.size ≤ wz5.heap.size := (unhide hk).bel.size
            have hn : bz < wz5.heap.size := (unhide HA).lt
            generalize wz5.heap.size = Bz at HR hlb hn
            generalize wz6.heap.size = Tz at HR
            have HR := hide HR
            have HLB := hide hlb
            have HN : Hid (bz < Bz ∨ Tz ≤ bz) := Or.inl hn
            clear hlb RE hn
            have hk := hide ((unhide hk).call hb)
            have HQ1 := hide ((unhide HQ1).call hb)
            have HQ2 := hide ((unhide HQ2).call hb)
            have HQ3 := hide ((unhide HQ3).call hb)
            have HQ4 := hide ((unhide HQ4).call hb)
            have HQ5 := hide ((unhide HQ5).call hb)
            have HQA := hide ((unhide HQA).call hb)
            have HQB := hide ((unhide HQB).call hb)
            have HQC := hide ((unhide HQC).call hb)
            have HA := hide ((unhide HA).call hb)
            clear hb
            refine hK.out _ _ (unhide hk) (fun hHeld => ?_)
            clear hK K
            try simp only [Act.put, List.setIfInBounds_toArray, List.set_cons_zero, List.set_cons_succ]
            refine wpAnyH_ready (rs := [10]) (by kernel_rfl) (by simp) ?_
            refine AllReadyH.cons (i := 10) (o := { dst := none, op := Op.store 44 (Operand.tmp 10) (Operand.tmp 46), type := 0, pos := "exact.go:2659", after := #[{ on := 9, ground := Ground.data }, { on := 8, ground := Ground.data }, { on := 8, ground := Ground.chain }, { on := 0, ground := Ground.phase }, { on := 1, ground := Ground.phase }, { on := 2, ground := Ground.phase }, { on := 3, ground := Ground.phase }, { on := 4, ground := Ground.phase }, { on := 5, ground := Ground.phase }, { on := 6, ground := Ground.phase }, { on := 7, ground := Ground.phase }, { on := 8, ground := Ground.phase }, { on := 9, ground := Ground.phase }], guard := none }) rfl (fun K hK => ?_) AllReadyH.nil
            obtain ⟨c0, c1_, c2_, cf⟩ := unhide HA
            have f0 := cf 0
            have f1 := cf 1
            have f2 := cf 2
            clear cf
            go_simp
            refine hK.out _ _ ?_ (fun hHeld => ?_)
            · exact G9.of ((((unhide hk).b9.set (unhide HP).1 (unhide HP).2.1 (unhide HP).2.2 (unhide HLG) _).set (unhide HP).1 (unhide HP).2.1 (unhide HP).2.2 (unhide HLG) _).set (unhide HP).1 (unhide HP).2.1 (unhide HP).2.2 (unhide HLG) _)
            clear hK K c0 c1_ c2_ f0 f1 f2 hHeld
            try simp only [Act.put, List.setIfInBounds_toArray, List.set_cons_zero, List.set_cons_succ]
            refine wpAnyH_done (by kernel_rfl) ?_ _
            go_wp2_with fail
            go_meet
            exact ⟨bz, Bz, Tz, oa, ca, ob, cb, rfl, Ans.stored (unhide HA) (unhide HR) (unhide HN), unhide HLB, unhide HLG, bel_set (bel_set (bel_set (unhide hk).bel (unhide HLG)) (unhide HLG)) (unhide HLG)⟩
        · have HA := C3.new wz2 (.bool false) (.slice none 0 0) (.slice none 0 0) 44
          have hlg : v2.heap.size ≤ wz2.heap.size := (unhide hk).bel.size
          have ka := (Below.refl _ wz2).alloc (Nat.le_refl _) (Obj.cells #[.bool false, .slice none 0 0, .slice none 0 0] 44)
          have hk := hide ((unhide hk).call ka)
          have HQ1 := hide ((unhide HQ1).call ka)
          have HQ2 := hide ((unhide HQ2).call ka)
          have HQ3 := hide ((unhide HQ3).call ka)
          have HQ4 := hide ((unhide HQ4).call ka)
          have HQ5 := hide ((unhide HQ5).call ka)
          clear ka
          go_simp
          refine hK.out _ _ (unhide hk) (fun hHeld => ?_)
          clear hK K
          try simp only [Act.put, List.setIfInBounds_toArray, List.set_cons_zero, List.set_cons_succ]
          clear hHeld
          generalize hg : wz2.alloc (Obj.cells #[.bool false, .slice none 0 0, .slice none 0 0] 44) = wz3 at HA hk HQ1 HQ2 HQ3 HQ4 HQ5 ⊢
          clear hg
          have hHeld := unhide hk
          generalize wz2.heap.size = bz at HA hlg ⊢
          have HA := hide HA
          have HLG := hide hlg
          clear hlg
          refine wpAnyH_ready (rs := [5]) (by kernel_rfl) (by simp) ?_
          refine AllReadyH.cons (i := 5) (o := { dst := some 43, op := Op.call { callee := Callee.value (Operand.func 12), args := #[Operand.tmp 42], argTypes := #[28] }, type := 44, pos := "exact.go:2659", after := #[{ on := 4, ground := Ground.data }, { on := 3, ground := Ground.chain }], guard := none }) rfl (fun K hK => ?_) AllReadyH.nil
          go_simp
          refine (toEnv_c lj xa2 ya2 xc2 yc2 xs2 ys2 _ ((unhide SX2U).call (unhide hk).bel) ((unhide SY2U).call (unhide hk).bel)).mono ?_
          rintro e wz4 ⟨d3, d4, rfl, QA, QB, _, hb⟩
          have hk := hide ((unhide hk).call hb)
          have HQ1 := hide ((unhide HQ1).call hb)
          have HQ2 := hide ((unhide HQ2).call hb)
          have HQ3 := hide ((unhide HQ3).call hb)
          have HQ4 := hide ((unhide HQ4).call hb)
          have HQ5 := hide ((unhide HQ5).call hb)
          have HA := hide ((unhide HA).call hb)
          clear hb
          have HQA := hide QA
          clear QA
          have HQB := hide QB
          clear QB
          refine hK.out _ _ (unhide hk) (fun hHeld => ?_)
          clear hK K
          try simp only [Act.put, List.setIfInBounds_toArray, List.set_cons_zero, List.set_cons_succ]
          refine wpAnyH_ready (rs := [7]) (by kernel_rfl) (by simp) ?_
          refine AllReadyH.cons (i := 7) (o := { dst := some 45, op := Op.call { callee := Callee.value (Operand.func 26), args := #[Operand.tmp 44], argTypes := #[29] }, type := 29, pos := "exact.go:2659", after := #[{ on := 6, ground := Ground.data }, { on := 5, ground := Ground.chain }], guard := none }) rfl (fun K hK => ?_) AllReadyH.nil
          go_simp
          refine (toInt64S_c sa sc st _ ((unhide SIU).call (unhide hk).bel)).mono ?_
          rintro e wz5 ⟨rfl, QC, hb⟩
          generalize hib : wz4.heap.size = ib at QC ⊢
          clear hib
          have hk := hide ((unhide hk).call hb)
          have HQ1 := hide ((unhide HQ1).call hb)
          have HQ2 := hide ((unhide HQ2).call hb)
          have HQ3 := hide ((unhide HQ3).call hb)
          have HQ4 := hide ((unhide HQ4).call hb)
          have HQ5 := hide ((unhide HQ5).call hb)
          have HQA := hide ((unhide HQA).call hb)
          have HQB := hide ((unhide HQB).call hb)
          have HA := hide ((unhide HA).call hb)
          clear hb
          have HQC := hide QC
          clear QC
          refine hK.out _ _ (unhide hk) (fun hHeld => ?_)
          clear hK K
          try simp only [Act.put, List.setIfInBounds_toArray, List.set_cons_zero, List.set_cons_succ]
          refine wpAnyH_ready (rs := [8]) (by kernel_rfl) (by simp) ?_
          refine AllReadyH.cons (i := 8) (o := { dst := some 46, op := Op.call { callee := Callee.value (Operand.func 25), args := #[Operand.tmp 39, Operand.tmp 41, Operand.tmp 43, Operand.tmp 45], argTypes := #[40, 44, 44, 29] }, type := 44, pos := "exact.go:2659", after := #[{ on := 1, ground := Ground.data }, { on := 3, ground := Ground.data }, { on := 5, ground := Ground.data }, { on := 7, ground := Ground.data }, { on := 7, ground := Ground.chain }], guard := none }) rfl (fun K hK => ?_) AllReadyH.nil
          go_simp
          refine (sEnvWiden_c b1 b2 b3 _ _ _ vs fs rs li d1 d2 _ _ xs ys lj d3 d4 _ _ xs2 ys2 _ _ st _ (unhide HQ1).1 (unhide HQ2).1 (unhide HQ3).1 (unhide HZ) (unhide HQ4).1 (unhide HQ5).1 (unhide HQA).1 (unhide HQB).1 (unhide HQC).1).mono ?_
          rintro e wz6 ⟨oa, ca, ob, cb, rfl, RE, hb⟩
          rw [← unhide HOKE, ← unhide HXE, ← unhide HYE]
          rw [← unhide HXE, ← unhide HYE] at RE
          have HR := RowsT.of RE
          have hlb : v2.heap.size ≤ wz5.heap.size := (unhide hk).bel.size
          have hn : bz < wz5.heap.size := (unhide HA).lt
          generalize wz5.heap.size = Bz at HR hlb hn
          generalize wz6.heap.size = Tz at HR
          have HR := hide HR
          have HLB := hide hlb
          have HN : Hid (bz < Bz ∨ Tz ≤ bz) := Or.inl hn
          clear hlb RE hn
          have hk := hide ((unhide hk).call hb)
          have HQ1 := hide ((unhide HQ1).call hb)
          have HQ2 := hide ((unhide HQ2).call hb)
          have HQ3 := hide ((unhide HQ3).call hb)
          have HQ4 := hide ((unhide HQ4).call hb)
          have HQ5 := hide ((unhide HQ5).call hb)
          have HQA := hide ((unhide HQA).call hb)
          have HQB := hide ((unhide HQB).call hb)
          have HQC := hide ((unhide HQC).call hb)
          have HA := hide ((unhide HA).call hb)
          clear hb
          refine hK.out _ _ (unhide hk) (fun hHeld => ?_)
          clear hK K
          try simp only [Act.put, List.setIfInBounds_toArray, List.set_cons_zero, List.set_cons_succ]
          refine wpAnyH_ready (rs := [10]) (by kernel_rfl) (by simp) ?_
          refine AllReadyH.cons (i := 10) (o := { dst := none, op := Op.store 44 (Operand.tmp 10) (Operand.tmp 46), type := 0, pos := "exact.go:2659", after := #[{ on := 9, ground := Ground.data }, { on := 8, ground := Ground.data }, { on := 8, ground := Ground.chain }, { on := 0, ground := Ground.phase }, { on := 1, ground := Ground.phase }, { on := 2, ground := Ground.phase }, { on := 3, ground := Ground.phase }, { on := 4, ground := Ground.phase }, { on := 5, ground := Ground.phase }, { on := 6, ground := Ground.phase }, { on := 7, ground := Ground.phase }, { on := 8, ground := Ground.phase }, { on := 9, ground := Ground.phase }], guard := none }) rfl (fun K hK => ?_) AllReadyH.nil
          obtain ⟨c0, c1_, c2_, cf⟩ := unhide HA
          have f0 := cf 0
          have f1 := cf 1
          have f2 := cf 2
          clear cf
          go_simp
          refine hK.out _ _ ?_ (fun hHeld => ?_)
          · exact G9.of ((((unhide hk).b9.set (unhide HP).1 (unhide HP).2.1 (unhide HP).2.2 (unhide HLG) _).set (unhide HP).1 (unhide HP).2.1 (unhide HP).2.2 (unhide HLG) _).set (unhide HP).1 (unhide HP).2.1 (unhide HP).2.2 (unhide HLG) _)
          clear hK K c0 c1_ c2_ f0 f1 f2 hHeld
          try simp only [Act.put, List.setIfInBounds_toArray, List.set_cons_zero, List.set_cons_succ]
          refine wpAnyH_done (by kernel_rfl) ?_ _
          go_wp2_with fail
          go_meet
          exact ⟨bz, Bz, Tz, oa, ca, ob, cb, rfl, Ans.stored (unhide HA) (unhide HR) (unhide HN), unhide HLB, unhide HLG, bel_set (bel_set (bel_set (unhide hk).bel (unhide HLG)) (unhide HLG)) (unhide HLG)⟩
      · have HA := C3.new wz1 (.bool false) (.slice none 0 0) (.slice none 0 0) 44
        have hlg : v2.heap.size ≤ wz1.heap.size := (unhide hk).bel.size
        have ka := (Below.refl _ wz1).alloc (Nat.le_refl _) (Obj.cells #[.bool false, .slice none 0 0, .slice none 0 0] 44)
        have hk := hide ((unhide hk).call ka)
        have HQ1 := hide ((unhide HQ1).call ka)
        have HQ2 := hide ((unhide HQ2).call ka)
        have HQ3 := hide ((unhide HQ3).call ka)
        clear ka
        go_simp
        refine hK.out _ _ (unhide hk) (fun hHeld => ?_)
        clear hK K
        try simp only [Act.put, List.setIfInBounds_toArray, List.set_cons_zero, List.set_cons_succ]
        clear hHeld
        generalize hg : wz1.alloc (Obj.cells #[.bool false, .slice none 0 0, .slice none 0 0] 44) = wz2 at HA hk HQ1 HQ2 HQ3 ⊢
        clear hg
        have hHeld := unhide hk
        generalize wz1.heap.size = bz at HA hlg ⊢
        have HA := hide HA
        have HLG := hide hlg
        clear hlg
        refine wpAnyH_ready (rs := [3]) (by kernel_rfl) (by simp) ?_
        refine AllReadyH.cons (i := 3) (o := { dst := some 41, op := Op.call { callee := Callee.value (Operand.func 12), args := #[Operand.tmp 40], argTypes := #[28] }, type := 44, pos := "exact.go:2659", after := #[{ on := 2, ground := Ground.data }, { on := 1, ground := Ground.chain }], guard := none }) rfl (fun K hK => ?_) AllReadyH.nil
        go_simp
        refine (toEnv_c li xa ya xc yc xs ys _ ((unhide SXU).call (unhide hk).bel) ((unhide SYU).call (unhide hk).bel)).mono ?_
        rintro e wz3 ⟨d1, d2, rfl, Q4, Q5, _, hb⟩
        have hk := hide ((unhide hk).call hb)
        have HQ1 := hide ((unhide HQ1).call hb)
        have HQ2 := hide ((unhide HQ2).call hb)
        have HQ3 := hide ((unhide HQ3).call hb)
        have HA := hide ((unhide HA).call hb)
        clear hb
        have HQ4 := hide Q4
        clear Q4
        have HQ5 := hide Q5
        clear Q5
        refine hK.out _ _ (unhide hk) (fun hHeld => ?_)
        clear hK K
        try simp only [Act.put, List.setIfInBounds_toArray, List.set_cons_zero, List.set_cons_succ]
        refine wpAnyH_ready (rs := [5]) (by kernel_rfl) (by simp) ?_
        refine AllReadyH.cons (i := 5) (o := { dst := some 43, op := Op.call { callee := Callee.value (Operand.func 12), args := #[Operand.tmp 42], argTypes := #[28] }, type := 44, pos := "exact.go:2659", after := #[{ on := 4, ground := Ground.data }, { on := 3, ground := Ground.chain }], guard := none }) rfl (fun K hK => ?_) AllReadyH.nil
        go_simp
        refine (toEnv_c lj xa2 ya2 xc2 yc2 xs2 ys2 _ ((unhide SX2U).call (unhide hk).bel) ((unhide SY2U).call (unhide hk).bel)).mono ?_
        rintro e wz4 ⟨d3, d4, rfl, QA, QB, _, hb⟩
        have hk := hide ((unhide hk).call hb)
        have HQ1 := hide ((unhide HQ1).call hb)
        have HQ2 := hide ((unhide HQ2).call hb)
        have HQ3 := hide ((unhide HQ3).call hb)
        have HQ4 := hide ((unhide HQ4).call hb)
        have HQ5 := hide ((unhide HQ5).call hb)
        have HA := hide ((unhide HA).call hb)
        clear hb
        have HQA := hide QA
        clear QA
        have HQB := hide QB
        clear QB
        refine hK.out _ _ (unhide hk) (fun hHeld => ?_)
        clear hK K
        try simp only [Act.put, List.setIfInBounds_toArray, List.set_cons_zero, List.set_cons_succ]
        refine wpAnyH_ready (rs := [7]) (by kernel_rfl) (by simp) ?_
        refine AllReadyH.cons (i := 7) (o := { dst := some 45, op := Op.call { callee := Callee.value (Operand.func 26), args := #[Operand.tmp 44], argTypes := #[29] }, type := 29, pos := "exact.go:2659", after := #[{ on := 6, ground := Ground.data }, { on := 5, ground := Ground.chain }], guard := none }) rfl (fun K hK => ?_) AllReadyH.nil
        go_simp
        refine (toInt64S_c sa sc st _ ((unhide SIU).call (unhide hk).bel)).mono ?_
        rintro e wz5 ⟨rfl, QC, hb⟩
        generalize hib : wz4.heap.size = ib at QC ⊢
        clear hib
        have hk := hide ((unhide hk).call hb)
        have HQ1 := hide ((unhide HQ1).call hb)
        have HQ2 := hide ((unhide HQ2).call hb)
        have HQ3 := hide ((unhide HQ3).call hb)
        have HQ4 := hide ((unhide HQ4).call hb)
        have HQ5 := hide ((unhide HQ5).call hb)
        have HQA := hide ((unhide HQA).call hb)
        have HQB := hide ((unhide HQB).call hb)
        have HA := hide ((unhide HA).call hb)
        clear hb
        have HQC := hide QC
        clear QC
        refine hK.out _ _ (unhide hk) (fun hHeld => ?_)
        clear hK K
        try simp only [Act.put, List.setIfInBounds_toArray, List.set_cons_zero, List.set_cons_succ]
        refine wpAnyH_ready (rs := [8]) (by kernel_rfl) (by simp) ?_
        refine AllReadyH.cons (i := 8) (o := { dst := some 46, op := Op.call { callee := Callee.value (Operand.func 25), args := #[Operand.tmp 39, Operand.tmp 41, Operand.tmp 43, Operand.tmp 45], argTypes := #[40, 44, 44, 29] }, type := 44, pos := "exact.go:2659", after := #[{ on := 1, ground := Ground.data }, { on := 3, ground := Ground.data }, { on := 5, ground := Ground.data }, { on := 7, ground := Ground.data }, { on := 7, ground := Ground.chain }], guard := none }) rfl (fun K hK => ?_) AllReadyH.nil
        go_simp
        refine (sEnvWiden_c b1 b2 b3 _ _ _ vs fs rs li d1 d2 _ _ xs ys lj d3 d4 _ _ xs2 ys2 _ _ st _ (unhide HQ1).1 (unhide HQ2).1 (unhide HQ3).1 (unhide HZ) (unhide HQ4).1 (unhide HQ5).1 (unhide HQA).1 (unhide HQB).1 (unhide HQC).1).mono ?_
        rintro e wz6 ⟨oa, ca, ob, cb, rfl, RE, hb⟩
        rw [← unhide HOKE, ← unhide HXE, ← unhide HYE]
        rw [← unhide HXE, ← unhide HYE] at RE
        have HR := RowsT.of RE
        have hlb : v2.heap.size ≤ wz5.heap.size := (unhide hk).bel.size
        have hn : bz < wz5.heap.size := (unhide HA).lt
        generalize wz5.heap.size = Bz at HR hlb hn
        generalize wz6.heap.size = Tz at HR
        have HR := hide HR
        have HLB := hide hlb
        have HN : Hid (bz < Bz ∨ Tz ≤ bz) := Or.inl hn
        clear hlb RE hn
        have hk := hide ((unhide hk).call hb)
        have HQ1 := hide ((unhide HQ1).call hb)
        have HQ2 := hide ((unhide HQ2).call hb)
        have HQ3 := hide ((unhide HQ3).call hb)
        have HQ4 := hide ((unhide HQ4).call hb)
        have HQ5 := hide ((unhide HQ5).call hb)
        have HQA := hide ((unhide HQA).call hb)
        have HQB := hide ((unhide HQB).call hb)
        have HQC := hide ((unhide HQC).call hb)
        have HA := hide ((unhide HA).call hb)
        clear hb
        refine hK.out _ _ (unhide hk) (fun hHeld => ?_)
        clear hK K
        try simp only [Act.put, List.setIfInBounds_toArray, List.set_cons_zero, List.set_cons_succ]
        refine wpAnyH_ready (rs := [10]) (by kernel_rfl) (by simp) ?_
        refine AllReadyH.cons (i := 10) (o := { dst := none, op := Op.store 44 (Operand.tmp 10) (Operand.tmp 46), type := 0, pos := "exact.go:2659", after := #[{ on := 9, ground := Ground.data }, { on := 8, ground := Ground.data }, { on := 8, ground := Ground.chain }, { on := 0, ground := Ground.phase }, { on := 1, ground := Ground.phase }, { on := 2, ground := Ground.phase }, { on := 3, ground := Ground.phase }, { on := 4, ground := Ground.phase }, { on := 5, ground := Ground.phase }, { on := 6, ground := Ground.phase }, { on := 7, ground := Ground.phase }, { on := 8, ground := Ground.phase }, { on := 9, ground := Ground.phase }], guard := none }) rfl (fun K hK => ?_) AllReadyH.nil
        obtain ⟨c0, c1_, c2_, cf⟩ := unhide HA
        have f0 := cf 0
        have f1 := cf 1
        have f2 := cf 2
        clear cf
        go_simp
        refine hK.out _ _ ?_ (fun hHeld => ?_)
        · exact G9.of ((((unhide hk).b9.set (unhide HP).1 (unhide HP).2.1 (unhide HP).2.2 (unhide HLG) _).set (unhide HP).1 (unhide HP).2.1 (unhide HP).2.2 (unhide HLG) _).set (unhide HP).1 (unhide HP).2.1 (unhide HP).2.2 (unhide HLG) _)
        clear hK K c0 c1_ c2_ f0 f1 f2 hHeld
        try simp only [Act.put, List.setIfInBounds_toArray, List.set_cons_zero, List.set_cons_succ]
        refine wpAnyH_done (by kernel_rfl) ?_ _
        go_wp2_with fail
        go_meet
        exact ⟨bz, Bz, Tz, oa, ca, ob, cb, rfl, Ans.stored (unhide HA) (unhide HR) (unhide HN), unhide HLB, unhide HLG, bel_set (bel_set (bel_set (unhide hk).bel (unhide HLG)) (unhide HLG)) (unhide HLG)⟩
    · have HA := C3.new wz0 (.bool false) (.slice none 0 0) (.slice none 0 0) 44
      have hlg : v2.heap.size ≤ wz0.heap.size := (unhide hk).bel.size
      have ka := (Below.refl _ wz0).alloc (Nat.le_refl _) (Obj.cells #[.bool false, .slice none 0 0, .slice none 0 0] 44)
      have hk := hide ((unhide hk).call ka)
      clear ka
      go_simp
      refine hK.out _ _ (unhide hk) (fun hHeld => ?_)
      clear hK K
      try simp only [Act.put, List.setIfInBounds_toArray, List.set_cons_zero, List.set_cons_succ]
      clear hHeld
      generalize hg : wz0.alloc (Obj.cells #[.bool false, .slice none 0 0, .slice none 0 0] 44) = wz1 at HA hk  ⊢
      clear hg
      have hHeld := unhide hk
      generalize wz0.heap.size = bz at HA hlg ⊢
      have HA := hide HA
      have HLG := hide hlg
      clear hlg
      refine wpAnyH_ready (rs := [1]) (by kernel_rfl) (by simp) ?_
      refine AllReadyH.cons (i := 1) (o := { dst := some 39, op := Op.call { callee := Callee.value (Operand.func 11), args := #[Operand.tmp 38], argTypes := #[25] }, type := 40, pos := "exact.go:2659", after := #[{ on := 0, ground := Ground.data }], guard := none }) rfl (fun K hK => ?_) AllReadyH.nil
      go_simp
      refine (toDecl_c va fa ra vc fc rc vs fs rs _ ((unhide SVU).call (unhide hk).bel) ((unhide SFU).call (unhide hk).bel) ((unhide SRU).call (unhide hk).bel)).mono ?_
      rintro e wz2 ⟨b1, b2, b3, rfl, Q1, Q2, Q3, _, hb⟩
      have hk := hide ((unhide hk).call hb)
      have HA := hide ((unhide HA).call hb)
      clear hb
      have HQ1 := hide Q1
      clear Q1
      have HQ2 := hide Q2
      clear Q2
      have HQ3 := hide Q3
      clear Q3
      refine hK.out _ _ (unhide hk) (fun hHeld => ?_)
      clear hK K
      try simp only [Act.put, List.setIfInBounds_toArray, List.set_cons_zero, List.set_cons_succ]
      refine wpAnyH_ready (rs := [3]) (by kernel_rfl) (by simp) ?_
      refine AllReadyH.cons (i := 3) (o := { dst := some 41, op := Op.call { callee := Callee.value (Operand.func 12), args := #[Operand.tmp 40], argTypes := #[28] }, type := 44, pos := "exact.go:2659", after := #[{ on := 2, ground := Ground.data }, { on := 1, ground := Ground.chain }], guard := none }) rfl (fun K hK => ?_) AllReadyH.nil
      go_simp
      refine (toEnv_c li xa ya xc yc xs ys _ ((unhide SXU).call (unhide hk).bel) ((unhide SYU).call (unhide hk).bel)).mono ?_
      rintro e wz3 ⟨d1, d2, rfl, Q4, Q5, _, hb⟩
      have hk := hide ((unhide hk).call hb)
      have HQ1 := hide ((unhide HQ1).call hb)
      have HQ2 := hide ((unhide HQ2).call hb)
      have HQ3 := hide ((unhide HQ3).call hb)
      have HA := hide ((unhide HA).call hb)
      clear hb
      have HQ4 := hide Q4
      clear Q4
      have HQ5 := hide Q5
      clear Q5
      refine hK.out _ _ (unhide hk) (fun hHeld => ?_)
      clear hK K
      try simp only [Act.put, List.setIfInBounds_toArray, List.set_cons_zero, List.set_cons_succ]
      refine wpAnyH_ready (rs := [5]) (by kernel_rfl) (by simp) ?_
      refine AllReadyH.cons (i := 5) (o := { dst := some 43, op := Op.call { callee := Callee.value (Operand.func 12), args := #[Operand.tmp 42], argTypes := #[28] }, type := 44, pos := "exact.go:2659", after := #[{ on := 4, ground := Ground.data }, { on := 3, ground := Ground.chain }], guard := none }) rfl (fun K hK => ?_) AllReadyH.nil
      go_simp
      refine (toEnv_c lj xa2 ya2 xc2 yc2 xs2 ys2 _ ((unhide SX2U).call (unhide hk).bel) ((unhide SY2U).call (unhide hk).bel)).mono ?_
      rintro e wz4 ⟨d3, d4, rfl, QA, QB, _, hb⟩
      have hk := hide ((unhide hk).call hb)
      have HQ1 := hide ((unhide HQ1).call hb)
      have HQ2 := hide ((unhide HQ2).call hb)
      have HQ3 := hide ((unhide HQ3).call hb)
      have HQ4 := hide ((unhide HQ4).call hb)
      have HQ5 := hide ((unhide HQ5).call hb)
      have HA := hide ((unhide HA).call hb)
      clear hb
      have HQA := hide QA
      clear QA
      have HQB := hide QB
      clear QB
      refine hK.out _ _ (unhide hk) (fun hHeld => ?_)
      clear hK K
      try simp only [Act.put, List.setIfInBounds_toArray, List.set_cons_zero, List.set_cons_succ]
      refine wpAnyH_ready (rs := [7]) (by kernel_rfl) (by simp) ?_
      refine AllReadyH.cons (i := 7) (o := { dst := some 45, op := Op.call { callee := Callee.value (Operand.func 26), args := #[Operand.tmp 44], argTypes := #[29] }, type := 29, pos := "exact.go:2659", after := #[{ on := 6, ground := Ground.data }, { on := 5, ground := Ground.chain }], guard := none }) rfl (fun K hK => ?_) AllReadyH.nil
      go_simp
      refine (toInt64S_c sa sc st _ ((unhide SIU).call (unhide hk).bel)).mono ?_
      rintro e wz5 ⟨rfl, QC, hb⟩
      generalize hib : wz4.heap.size = ib at QC ⊢
      clear hib
      have hk := hide ((unhide hk).call hb)
      have HQ1 := hide ((unhide HQ1).call hb)
      have HQ2 := hide ((unhide HQ2).call hb)
      have HQ3 := hide ((unhide HQ3).call hb)
      have HQ4 := hide ((unhide HQ4).call hb)
      have HQ5 := hide ((unhide HQ5).call hb)
      have HQA := hide ((unhide HQA).call hb)
      have HQB := hide ((unhide HQB).call hb)
      have HA := hide ((unhide HA).call hb)
      clear hb
      have HQC := hide QC
      clear QC
      refine hK.out _ _ (unhide hk) (fun hHeld => ?_)
      clear hK K
      try simp only [Act.put, List.setIfInBounds_toArray, List.set_cons_zero, List.set_cons_succ]
      refine wpAnyH_ready (rs := [8]) (by kernel_rfl) (by simp) ?_
      refine AllReadyH.cons (i := 8) (o := { dst := some 46, op := Op.call { callee := Callee.value (Operand.func 25), args := #[Operand.tmp 39, Operand.tmp 41, Operand.tmp 43, Operand.tmp 45], argTypes := #[40, 44, 44, 29] }, type := 44, pos := "exact.go:2659", after := #[{ on := 1, ground := Ground.data }, { on := 3, ground := Ground.data }, { on := 5, ground := Ground.data }, { on := 7, ground := Ground.data }, { on := 7, ground := Ground.chain }], guard := none }) rfl (fun K hK => ?_) AllReadyH.nil
      go_simp
      refine (sEnvWiden_c b1 b2 b3 _ _ _ vs fs rs li d1 d2 _ _ xs ys lj d3 d4 _ _ xs2 ys2 _ _ st _ (unhide HQ1).1 (unhide HQ2).1 (unhide HQ3).1 (unhide HZ) (unhide HQ4).1 (unhide HQ5).1 (unhide HQA).1 (unhide HQB).1 (unhide HQC).1).mono ?_
      rintro e wz6 ⟨oa, ca, ob, cb, rfl, RE, hb⟩
      rw [← unhide HOKE, ← unhide HXE, ← unhide HYE]
      rw [← unhide HXE, ← unhide HYE] at RE
      have HR := RowsT.of RE
      have hlb : v2.heap.size ≤ wz5.heap.size := (unhide hk).bel.size
      have hn : bz < wz5.heap.size := (unhide HA).lt
      generalize wz5.heap.size = Bz at HR hlb hn
      generalize wz6.heap.size = Tz at HR
      have HR := hide HR
      have HLB := hide hlb
      have HN : Hid (bz < Bz ∨ Tz ≤ bz) := Or.inl hn
      clear hlb RE hn
      have hk := hide ((unhide hk).call hb)
      have HQ1 := hide ((unhide HQ1).call hb)
      have HQ2 := hide ((unhide HQ2).call hb)
      have HQ3 := hide ((unhide HQ3).call hb)
      have HQ4 := hide ((unhide HQ4).call hb)
      have HQ5 := hide ((unhide HQ5).call hb)
      have HQA := hide ((unhide HQA).call hb)
      have HQB := hide ((unhide HQB).call hb)
      have HQC := hide ((unhide HQC).call hb)
      have HA := hide ((unhide HA).call hb)
      clear hb
      refine hK.out _ _ (unhide hk) (fun hHeld => ?_)
      clear hK K
      try simp only [Act.put, List.setIfInBounds_toArray, List.set_cons_zero, List.set_cons_succ]
      refine wpAnyH_ready (rs := [10]) (by kernel_rfl) (by simp) ?_
      refine AllReadyH.cons (i := 10) (o := { dst := none, op := Op.store 44 (Operand.tmp 10) (Operand.tmp 46), type := 0, pos := "exact.go:2659", after := #[{ on := 9, ground := Ground.data }, { on := 8, ground := Ground.data }, { on := 8, ground := Ground.chain }, { on := 0, ground := Ground.phase }, { on := 1, ground := Ground.phase }, { on := 2, ground := Ground.phase }, { on := 3, ground := Ground.phase }, { on := 4, ground := Ground.phase }, { on := 5, ground := Ground.phase }, { on := 6, ground := Ground.phase }, { on := 7, ground := Ground.phase }, { on := 8, ground := Ground.phase }, { on := 9, ground := Ground.phase }], guard := none }) rfl (fun K hK => ?_) AllReadyH.nil
      obtain ⟨c0, c1_, c2_, cf⟩ := unhide HA
      have f0 := cf 0
      have f1 := cf 1
      have f2 := cf 2
      clear cf
      go_simp
      refine hK.out _ _ ?_ (fun hHeld => ?_)
      · exact G9.of ((((unhide hk).b9.set (unhide HP).1 (unhide HP).2.1 (unhide HP).2.2 (unhide HLG) _).set (unhide HP).1 (unhide HP).2.1 (unhide HP).2.2 (unhide HLG) _).set (unhide HP).1 (unhide HP).2.1 (unhide HP).2.2 (unhide HLG) _)
      clear hK K c0 c1_ c2_ f0 f1 f2 hHeld
      try simp only [Act.put, List.setIfInBounds_toArray, List.set_cons_zero, List.set_cons_succ]
      refine wpAnyH_done (by kernel_rfl) ?_ _
      go_wp2_with fail
      go_meet
      exact ⟨bz, Bz, Tz, oa, ca, ob, cb, rfl, Ans.stored (unhide HA) (unhide HR) (unhide HN), unhide HLB, unhide HLG, bel_set (bel_set (bel_set (unhide hk).bel (unhide HLG)) (unhide HLG)) (unhide HLG)⟩
  case rest =>
  obtain ⟨g1, B1, T1, oa, ca, ob, cb, rfl, hans, _, _, hbel⟩ := hcut
  have HB := hide ((unhide HB).call hbel)
  have AN1 := hide hans
  clear hans hbel HS HP SVU SFU SRU SXU SYU SX2U SY2U SIU HWU
  obtain ⟨wd, rfl⟩ : ∃ wd : World, wd = wc := ⟨_, rfl⟩
  obtain ⟨lo, hlo⟩ : ∃ lo, lo = wd.heap.size := ⟨_, rfl⟩
  have HLO : Hid (w.heap.size + 2 < lo ∧ g1 < lo ∧ T1 ≤ lo ∧ w.heap.size ≤ lo) := by rw [hlo]; exact ⟨(unhide HB).2.2.1.lt, (unhide AN1).1.lt, (unhide AN1).2.1.2.2.2, (unhide HB).2.2.2.size⟩
  have p0 := (unhide HB).1.1
  have p1 := (unhide HB).1.2.1
  have p2 := (unhide HB).1.2.2.1
  go_wp2_with fail
  refine (toDecl_c va fa ra vc fc rc vs fs rs _ ((unhide SV).call (unhide HB).2.2.2) ((unhide SF).call (unhide HB).2.2.2) ((unhide SR).call (unhide HB).2.2.2)).mono ?_
  rintro e x0 ⟨c1, c2, c3, rfl, R1, R2, R3, hcl, kb⟩
  rw [← hlo] at hcl
  clear hlo p0 p1 p2
  have HB := hide ((unhide HB).call kb)
  have AN1 := hide ((unhide AN1).call kb)
  clear kb
  have HR1 := hide R1
  have HR2 := hide R2
  have HR3 := hide R3
  clear R1 R2 R3
  have lc3 : c3 < x0.heap.size := (unhide HR3).2.2
  have ka := (Below.refl _ x0).alloc (Nat.le_refl _) (Obj.cells #[.slice (some ⟨c1, 0, none⟩) vs.length vs.length, .slice (some ⟨c2, 0, none⟩) fs.length fs.length, .slice (some ⟨c3, 0, none⟩) rs.length rs.length] 40)
  have HA0 := hide (C3.new x0 (.slice (some ⟨c1, 0, none⟩) vs.length vs.length) (.slice (some ⟨c2, 0, none⟩) fs.length fs.length) (.slice (some ⟨c3, 0, none⟩) rs.length rs.length) 40)
  have HB := hide ((unhide HB).call ka)
  have AN1 := hide ((unhide AN1).call ka)
  have HR1 := hide ((unhide HR1).call ka)
  have HR2 := hide ((unhide HR2).call ka)
  have HR3 := hide ((unhide HR3).call ka)
  clear ka
  obtain ⟨X0, hX⟩ : ∃ X, X = x0.heap.size := ⟨_, rfl⟩
  obtain ⟨z0, hz⟩ : ∃ z, z = x0.alloc (Obj.cells #[.slice (some ⟨c1, 0, none⟩) vs.length vs.length, .slice (some ⟨c2, 0, none⟩) fs.length fs.length, .slice (some ⟨c3, 0, none⟩) rs.length rs.length] 40) := ⟨_, rfl⟩
  have hsz : z0.heap.size = X0 + 1 := by rw [hz, hX]; simp
  rw [← hX, ← hz] at HA0
  rw [← hz] at HB AN1 HR1 HR2 HR3
  rw [← hX] at lc3
  obtain ⟨mid, hmid⟩ : ∃ m, m = X0 + 1 := ⟨_, rfl⟩
  have HMID : Hid (lo ≤ c1 ∧ c1 < c2 ∧ c2 < c3 ∧ c3 < mid ∧ X0 < mid ∧ z0.heap.size = mid) := ⟨hcl.1, hcl.2.1, hcl.2.2, by omega, by omega, by omega⟩
  clear hcl lc3 hmid hsz
  have hXZ := hide (And.intro hX hz)
  clear hX hz
  go_upto_region 15 with fail
  rw [← (unhide hXZ).1, ← (unhide hXZ).2]
  clear hXZ
  have p0 := (unhide HB).2.1.1
  have p1 := (unhide HB).2.1.2.1
  have p2 := (unhide HB).2.1.2.2.1
  go_wp2_with fail
  refine (toEnv_c li xa ya xc yc xs ys _ ((unhide SX).call (unhide HB).2.2.2) ((unhide SY).call (unhide HB).2.2.2)).mono ?_
  rintro e x1 ⟨e1, e2, rfl, R4, R5, hel, kb⟩
  clear p0 p1 p2
  have HB := hide ((unhide HB).call kb)
  have AN1 := hide ((unhide AN1).call kb)
  have HR1 := hide ((unhide HR1).call kb)
  have HR2 := hide ((unhide HR2).call kb)
  have HR3 := hide ((unhide HR3).call kb)
  have HA0 := hide ((unhide HA0).call kb)
  clear kb
  have HR4 := hide R4
  have HR5 := hide R5
  clear R4 R5
  have le2 : e2 < x1.heap.size := (unhide HR5).2.2
  have ka := (Below.refl _ x1).alloc (Nat.le_refl _) (Obj.cells #[.bool li, .slice (some ⟨e1, 0, none⟩) xs.length xs.length, .slice (some ⟨e2, 0, none⟩) ys.length ys.length] 44)
  have HA1 := hide (C3.new x1 (.bool li) (.slice (some ⟨e1, 0, none⟩) xs.length xs.length) (.slice (some ⟨e2, 0, none⟩) ys.length ys.length) 44)
  have HB := hide ((unhide HB).call ka)
  have AN1 := hide ((unhide AN1).call ka)
  have HR1 := hide ((unhide HR1).call ka)
  have HR2 := hide ((unhide HR2).call ka)
  have HR3 := hide ((unhide HR3).call ka)
  have HA0 := hide ((unhide HA0).call ka)
  have HR4 := hide ((unhide HR4).call ka)
  have HR5 := hide ((unhide HR5).call ka)
  clear ka
  obtain ⟨X1, hX⟩ : ∃ X, X = x1.heap.size := ⟨_, rfl⟩
  obtain ⟨z1, hz⟩ : ∃ z, z = x1.alloc (Obj.cells #[.bool li, .slice (some ⟨e1, 0, none⟩) xs.length xs.length, .slice (some ⟨e2, 0, none⟩) ys.length ys.length] 44) := ⟨_, rfl⟩
  have hsz : z1.heap.size = X1 + 1 := by rw [hz, hX]; simp
  rw [← hX, ← hz] at HA1
  rw [← hz] at HB AN1 HR1 HR2 HR3 HA0 HR4 HR5
  rw [← hX] at le2
  obtain ⟨hi1, hhi1⟩ : ∃ m, m = X1 + 1 := ⟨_, rfl⟩
  have HH1 : Hid (mid ≤ e1 ∧ e1 < e2 ∧ e2 < hi1 ∧ X1 < hi1 ∧ mid ≤ X1 ∧ z1.heap.size = hi1) := ⟨by have := (unhide HMID).2.2.2.2.2; omega, hel.2, by omega, by omega, by have := (unhide HMID).2.2.2.2.2; omega, by omega⟩
  clear hel le2 hhi1 hsz
  have hXZ := hide (And.intro hX hz)
  clear hX hz
  go_upto_region 16 with fail
  rw [← (unhide hXZ).1, ← (unhide hXZ).2]
  clear hXZ
  have p0 := (unhide HB).2.2.1.1
  have p1 := (unhide HB).2.2.1.2.1
  have p2 := (unhide HB).2.2.1.2.2.1
  go_wp2_with fail
  refine (toEnv_c lj xa2 ya2 xc2 yc2 xs2 ys2 _ ((unhide SX2).call (unhide HB).2.2.2) ((unhide SY2).call (unhide HB).2.2.2)).mono ?_
  rintro e x2 ⟨e3, e4, rfl, R6, R7, hel, kb⟩
  clear p0 p1 p2
  have HB := hide ((unhide HB).call kb)
  have AN1 := hide ((unhide AN1).call kb)
  have HR1 := hide ((unhide HR1).call kb)
  have HR2 := hide ((unhide HR2).call kb)
  have HR3 := hide ((unhide HR3).call kb)
  have HA0 := hide ((unhide HA0).call kb)
  have HR4 := hide ((unhide HR4).call kb)
  have HR5 := hide ((unhide HR5).call kb)
  have HA1 := hide ((unhide HA1).call kb)
  clear kb
  have HR6 := hide R6
  have HR7 := hide R7
  clear R6 R7
  have le2 : e4 < x2.heap.size := (unhide HR7).2.2
  have ka := (Below.refl _ x2).alloc (Nat.le_refl _) (Obj.cells #[.bool lj, .slice (some ⟨e3, 0, none⟩) xs2.length xs2.length, .slice (some ⟨e4, 0, none⟩) ys2.length ys2.length] 44)
  have HA2 := hide (C3.new x2 (.bool lj) (.slice (some ⟨e3, 0, none⟩) xs2.length xs2.length) (.slice (some ⟨e4, 0, none⟩) ys2.length ys2.length) 44)
  have HB := hide ((unhide HB).call ka)
  have AN1 := hide ((unhide AN1).call ka)
  have HR1 := hide ((unhide HR1).call ka)
  have HR2 := hide ((unhide HR2).call ka)
  have HR3 := hide ((unhide HR3).call ka)
  have HA0 := hide ((unhide HA0).call ka)
  have HR4 := hide ((unhide HR4).call ka)
  have HR5 := hide ((unhide HR5).call ka)
  have HA1 := hide ((unhide HA1).call ka)
  have HR6 := hide ((unhide HR6).call ka)
  have HR7 := hide ((unhide HR7).call ka)
  clear ka
  obtain ⟨X2, hX⟩ : ∃ X, X = x2.heap.size := ⟨_, rfl⟩
  obtain ⟨z2, hz⟩ : ∃ z, z = x2.alloc (Obj.cells #[.bool lj, .slice (some ⟨e3, 0, none⟩) xs2.length xs2.length, .slice (some ⟨e4, 0, none⟩) ys2.length ys2.length] 44) := ⟨_, rfl⟩
  have hsz : z2.heap.size = X2 + 1 := by rw [hz, hX]; simp
  rw [← hX, ← hz] at HA2
  rw [← hz] at HB AN1 HR1 HR2 HR3 HA0 HR4 HR5 HA1 HR6 HR7
  rw [← hX] at le2
  have HHI : Hid (hi1 ≤ e3 ∧ e3 < e4 ∧ e4 < z2.heap.size ∧ X2 < z2.heap.size ∧ hi1 ≤ X2) := ⟨by have := (unhide HH1).2.2.2.2.2; omega, hel.2, by omega, by omega, by have := (unhide HH1).2.2.2.2.2; omega⟩
  clear hel le2 hsz
  have hXZ := hide (And.intro hX hz)
  clear hX hz
  go_upto_region 17 with fail
  rw [← (unhide hXZ).1, ← (unhide hXZ).2]
  clear hXZ
  go_wp2_with fail
  refine (toInt64S_c sa sc st _ ((unhide SI).call (unhide HB).2.2.2)).mono ?_
  rintro e y3 ⟨rfl, R8, kb⟩
  have HB := hide ((unhide HB).call kb)
  have AN1 := hide ((unhide AN1).call kb)
  have HR1 := hide ((unhide HR1).call kb)
  have HR2 := hide ((unhide HR2).call kb)
  have HR3 := hide ((unhide HR3).call kb)
  have HA0 := hide ((unhide HA0).call kb)
  have HR4 := hide ((unhide HR4).call kb)
  have HR5 := hide ((unhide HR5).call kb)
  have HA1 := hide ((unhide HA1).call kb)
  have HR6 := hide ((unhide HR6).call kb)
  have HR7 := hide ((unhide HR7).call kb)
  have HA2 := hide ((unhide HA2).call kb)
  clear kb
  generalize z2.heap.size = i0 at HHI R8 ⊢
  have li0 : i0 < y3.heap.size := R8.2.2
  have HR8 := hide R8
  clear R8
  have a00 := (unhide HA0).1
  have a01 := (unhide HA0).2.1
  have a02 := (unhide HA0).2.2.1
  have a10 := (unhide HA1).1
  have a11 := (unhide HA1).2.1
  have a12 := (unhide HA1).2.2.1
  have a20 := (unhide HA2).1
  have a21 := (unhide HA2).2.1
  have a22 := (unhide HA2).2.2.1
  go_wp2_with fail
  refine (iEnvWiden_c c1 c2 c3 _ _ _ vs fs rs li e1 e2 _ _ xs ys lj e3 e4 _ _ xs2 ys2 _ _ st _ ((unhide HW).call (unhide HB).2.2.2) (unhide HR1).1 (unhide HR2).1 (unhide HR3).1 (unhide HZ) (unhide HR4).1 (unhide HR5).1 (unhide HR6).1 (unhide HR7).1 (unhide HR8).1).mono ?_
  rintro e x3 ⟨pa, pc, pb, pd, rfl, RE, kb⟩
  rw [← unhide HOKE, ← unhide HXE, ← unhide HYE]
  rw [← unhide HXE, ← unhide HYE] at RE
  clear a00 a01 a02 a10 a11 a12 a20 a21 a22
  have HRT := RowsT.of RE
  have lbz : y3.heap.size ≤ x3.heap.size := kb.size
  clear RE
  have HB := hide ((unhide HB).call kb)
  have AN1 := hide ((unhide AN1).call kb)
  have HR1 := hide ((unhide HR1).call kb)
  have HR2 := hide ((unhide HR2).call kb)
  have HR3 := hide ((unhide HR3).call kb)
  have HA0 := hide ((unhide HA0).call kb)
  have HR4 := hide ((unhide HR4).call kb)
  have HR5 := hide ((unhide HR5).call kb)
  have HA1 := hide ((unhide HA1).call kb)
  have HR6 := hide ((unhide HR6).call kb)
  have HR7 := hide ((unhide HR7).call kb)
  have HA2 := hide ((unhide HA2).call kb)
  have HR8 := hide ((unhide HR8).call kb)
  clear kb
  have ka := (Below.refl _ x3).alloc (Nat.le_refl _) (Obj.cells #[.bool ok, .slice pa X.length pc, .slice pb Y.length pd] 44)
  have AN2 := hide (show Ans x3.heap.size y3.heap.size x3.heap.size ok pa pc pb pd X Y (x3.alloc (Obj.cells #[.bool ok, .slice pa X.length pc, .slice pb Y.length pd] 44)) from ⟨C3.new x3 _ _ _ _, HRT.call ka, .inr (Nat.le_refl _)⟩)
  clear HRT
  have HB := hide ((unhide HB).call ka)
  have AN1 := hide ((unhide AN1).call ka)
  have HR1 := hide ((unhide HR1).call ka)
  have HR2 := hide ((unhide HR2).call ka)
  have HR3 := hide ((unhide HR3).call ka)
  have HA0 := hide ((unhide HA0).call ka)
  have HR4 := hide ((unhide HR4).call ka)
  have HR5 := hide ((unhide HR5).call ka)
  have HA1 := hide ((unhide HA1).call ka)
  have HR6 := hide ((unhide HR6).call ka)
  have HR7 := hide ((unhide HR7).call ka)
  have HA2 := hide ((unhide HA2).call ka)
  have HR8 := hide ((unhide HR8).call ka)
  clear ka
  obtain ⟨g2, hX⟩ : ∃ X, X = x3.heap.size := ⟨_, rfl⟩
  obtain ⟨s0, hz⟩ : ∃ z, z = x3.alloc (Obj.cells #[.bool ok, .slice pa X.length pc, .slice pb Y.length pd] 44) := ⟨_, rfl⟩
  have hsz : s0.heap.size = g2 + 1 := by rw [hz, hX]; simp
  rw [← hX, ← hz] at AN2
  rw [← hX] at lbz
  rw [← hz] at HB AN1 HR1 HR2 HR3 HA0 HR4 HR5 HA1 HR6 HR7 HA2 HR8
  generalize y3.heap.size = hi at li0 lbz AN2
  have HI0 : Hid (i0 < hi) := li0
  have HI2 : Hid (hi ≤ hi ∧ hi ≤ g2 ∧ hi ≤ s0.heap.size) := ⟨Nat.le_refl _, lbz, by omega⟩
  clear lbz hsz li0
  have hXZ := hide (And.intro hX hz)
  clear hX hz
  go_upto_region 19 with fail
  rw [← (unhide hXZ).1, ← (unhide hXZ).2]
  clear hXZ
  have HSZ := hide (unhide HI2).2.2
  have a0 := (unhide AN2).1.1
  have a1 := (unhide AN2).1.2.1
  have a2 := (unhide AN2).1.2.2.1
  have b0 := (unhide AN1).1.1
  have b1 := (unhide AN1).1.2.1
  have b2 := (unhide AN1).1.2.2.1
  go_wp2_with fail
  refine (eqEnv_c ok _ _ _ _ _ _ _ _ X Y _ ((unhide AN2).2.1.1.ivs ⟨mX, mY⟩).1 ((unhide AN2).2.1.1.ivs ⟨mX, mY⟩).2 ((unhide AN1).2.1.1.ivs ⟨mX, mY⟩).1 ((unhide AN1).2.1.1.ivs ⟨mX, mY⟩).2).mono ?_
  rintro e s1 ⟨rfl, kb⟩
  clear a0 a1 a2 b0 b1 b2
  have HSZ := hide (Nat.le_trans (unhide HSZ) kb.size)
  have HB := hide ((unhide HB).call kb)
  have AN1 := hide ((unhide AN1).call kb)
  have HR1 := hide ((unhide HR1).call kb)
  have HR2 := hide ((unhide HR2).call kb)
  have HR3 := hide ((unhide HR3).call kb)
  have HA0 := hide ((unhide HA0).call kb)
  have HR4 := hide ((unhide HR4).call kb)
  have HR5 := hide ((unhide HR5).call kb)
  have HA1 := hide ((unhide HA1).call kb)
  have HR6 := hide ((unhide HR6).call kb)
  have HR7 := hide ((unhide HR7).call kb)
  have HA2 := hide ((unhide HA2).call kb)
  have HR8 := hide ((unhide HR8).call kb)
  have AN2 := hide ((unhide AN2).call kb)
  clear kb
  have hh := H6.of (unhide HA0) (unhide HB).1 (Below.refl _ s1)
  go_wp2
  go_region_held3 (H6 s1 X0 (w.heap.size) (.slice (some ⟨c1, 0, none⟩) vs.length vs.length) (.slice (some ⟨c2, 0, none⟩) fs.length fs.length) (.slice (some ⟨c3, 0, none⟩) rs.length rs.length) (.slice va vs.length vc) (.slice fa fs.length fc) (.slice ra rs.length rc))
    (first | exact H6.drew (by assumption) | exact hq | exact hq2)
    (first
      | (go_at_call 11; refine (toDecl_c va fa ra vc fc rc vs fs rs _ (((unhide SV).call (unhide HB).2.2.2).call hh.drew.below) (((unhide SF).call (unhide HB).2.2.2).call hh.drew.below) (((unhide SR).call (unhide HB).2.2.2).call hh.drew.below)).mono ?_; rintro e w1 ⟨q1, q2, q3, rfl, Q1, Q2, Q3, _, hb⟩; have hq := H6.call hb hh.drew)
      | (go_at_call 15; refine (eqDecl_c _ _ _ _ _ _ _ _ _ _ _ _ vs fs rs _ ((unhide HR1).call hq.below).1 ((unhide HR2).call hq.below).1 ((unhide HR3).call hq.below).1 Q1.1 Q2.1 Q3.1).mono ?_; rintro e s2 ⟨rfl, hb2⟩; have hq2 := H6.call hb2 hq))
  have kb := hq2.below
  clear hq hq2 hh hb hb2 Q1 Q2 Q3
  rename_i hHeld
  clear hHeld
  have HSZ := hide (Nat.le_trans (unhide HSZ) kb.size)
  have HB := hide ((unhide HB).call kb)
  have AN1 := hide ((unhide AN1).call kb)
  have HR1 := hide ((unhide HR1).call kb)
  have HR2 := hide ((unhide HR2).call kb)
  have HR3 := hide ((unhide HR3).call kb)
  have HA0 := hide ((unhide HA0).call kb)
  have HR4 := hide ((unhide HR4).call kb)
  have HR5 := hide ((unhide HR5).call kb)
  have HA1 := hide ((unhide HA1).call kb)
  have HR6 := hide ((unhide HR6).call kb)
  have HR7 := hide ((unhide HR7).call kb)
  have HA2 := hide ((unhide HA2).call kb)
  have HR8 := hide ((unhide HR8).call kb)
  have AN2 := hide ((unhide AN2).call kb)
  clear kb
  have hh := H6.of (unhide HA1) (unhide HB).2.1 (Below.refl _ s2)
  go_wp2
  go_region_held3 (H6 s2 X1 (w.heap.size + 1) (.bool li) (.slice (some ⟨e1, 0, none⟩) xs.length xs.length) (.slice (some ⟨e2, 0, none⟩) ys.length ys.length) (.bool li) (.slice xa xs.length xc) (.slice ya ys.length yc))
    (first | exact H6.drew (by assumption) | exact hq | exact hq2)
    (first
      | (go_at_call 12; refine (toEnv_c li xa ya xc yc xs ys _ (((unhide SX).call (unhide HB).2.2.2).call hh.drew.below) (((unhide SY).call (unhide HB).2.2.2).call hh.drew.below)).mono ?_; rintro e w1 ⟨q1, q2, rfl, Q1, Q2, _, hb⟩; have hq := H6.call hb hh.drew)
      | (go_at_call 16; refine (eqEnv_c li _ _ _ _ _ _ _ _ xs ys _ ((unhide HR4).call hq.below).1 ((unhide HR5).call hq.below).1 Q1.1 Q2.1).mono ?_; rintro e s3 ⟨rfl, hb2⟩; have hq2 := H6.call hb2 hq))
  have kb := hq2.below
  clear hq hq2 hh hb hb2 Q1 Q2
  rename_i hHeld
  clear hHeld
  have HSZ := hide (Nat.le_trans (unhide HSZ) kb.size)
  have HB := hide ((unhide HB).call kb)
  have AN1 := hide ((unhide AN1).call kb)
  have HR1 := hide ((unhide HR1).call kb)
  have HR2 := hide ((unhide HR2).call kb)
  have HR3 := hide ((unhide HR3).call kb)
  have HA0 := hide ((unhide HA0).call kb)
  have HR4 := hide ((unhide HR4).call kb)
  have HR5 := hide ((unhide HR5).call kb)
  have HA1 := hide ((unhide HA1).call kb)
  have HR6 := hide ((unhide HR6).call kb)
  have HR7 := hide ((unhide HR7).call kb)
  have HA2 := hide ((unhide HA2).call kb)
  have HR8 := hide ((unhide HR8).call kb)
  have AN2 := hide ((unhide AN2).call kb)
  clear kb
  have hh := H6.of (unhide HA2) (unhide HB).2.2.1 (Below.refl _ s3)
  go_wp2
  go_region_held3 (H6 s3 X2 (w.heap.size + 2) (.bool lj) (.slice (some ⟨e3, 0, none⟩) xs2.length xs2.length) (.slice (some ⟨e4, 0, none⟩) ys2.length ys2.length) (.bool lj) (.slice xa2 xs2.length xc2) (.slice ya2 ys2.length yc2))
    (first | exact H6.drew (by assumption) | exact hq | exact hq2)
    (first
      | (go_at_call 12; refine (toEnv_c lj xa2 ya2 xc2 yc2 xs2 ys2 _ (((unhide SX2).call (unhide HB).2.2.2).call hh.drew.below) (((unhide SY2).call (unhide HB).2.2.2).call hh.drew.below)).mono ?_; rintro e w1 ⟨q1, q2, rfl, Q1, Q2, _, hb⟩; have hq := H6.call hb hh.drew)
      | (go_at_call 16; refine (eqEnv_c lj _ _ _ _ _ _ _ _ xs2 ys2 _ ((unhide HR6).call hq.below).1 ((unhide HR7).call hq.below).1 Q1.1 Q2.1).mono ?_; rintro e s4 ⟨rfl, hb2⟩; have hq2 := H6.call hb2 hq))
  have kb := hq2.below
  clear hq hq2 hh hb hb2 Q1 Q2
  rename_i hHeld
  clear hHeld
  have HSZ := hide (Nat.le_trans (unhide HSZ) kb.size)
  have HB := hide ((unhide HB).call kb)
  have AN1 := hide ((unhide AN1).call kb)
  have HR1 := hide ((unhide HR1).call kb)
  have HR2 := hide ((unhide HR2).call kb)
  have HR3 := hide ((unhide HR3).call kb)
  have HA0 := hide ((unhide HA0).call kb)
  have HR4 := hide ((unhide HR4).call kb)
  have HR5 := hide ((unhide HR5).call kb)
  have HA1 := hide ((unhide HA1).call kb)
  have HR6 := hide ((unhide HR6).call kb)
  have HR7 := hide ((unhide HR7).call kb)
  have HA2 := hide ((unhide HA2).call kb)
  have HR8 := hide ((unhide HR8).call kb)
  have AN2 := hide ((unhide AN2).call kb)
  clear kb
  go_wp2_with fail
  refine (toInt64S_c sa sc st _ ((unhide SI).call (unhide HB).2.2.2)).mono ?_
  rintro e s4a ⟨rfl, Q8, kb⟩
  have HSZ := hide (Nat.le_trans (unhide HSZ) kb.size)
  have HB := hide ((unhide HB).call kb)
  have AN1 := hide ((unhide AN1).call kb)
  have HR1 := hide ((unhide HR1).call kb)
  have HR2 := hide ((unhide HR2).call kb)
  have HR3 := hide ((unhide HR3).call kb)
  have HA0 := hide ((unhide HA0).call kb)
  have HR4 := hide ((unhide HR4).call kb)
  have HR5 := hide ((unhide HR5).call kb)
  have HA1 := hide ((unhide HA1).call kb)
  have HR6 := hide ((unhide HR6).call kb)
  have HR7 := hide ((unhide HR7).call kb)
  have HA2 := hide ((unhide HA2).call kb)
  have HR8 := hide ((unhide HR8).call kb)
  have AN2 := hide ((unhide AN2).call kb)
  clear kb
  go_wp2_with fail
  refine (eqInt64S_c _ _ _ _ st _ (unhide HR8).1 Q8.1).mono ?_
  rintro e s4b ⟨rfl, mm, hmm⟩
  have kb : Below s4a.heap.size s4a s4b := by rw [hmm]; exact below_drewN (Below.refl _ _) mm
  clear hmm Q8
  have HSZ := hide (Nat.le_trans (unhide HSZ) kb.size)
  have HB := hide ((unhide HB).call kb)
  have AN1 := hide ((unhide AN1).call kb)
  have HR1 := hide ((unhide HR1).call kb)
  have HR2 := hide ((unhide HR2).call kb)
  have HR3 := hide ((unhide HR3).call kb)
  have HA0 := hide ((unhide HA0).call kb)
  have HR4 := hide ((unhide HR4).call kb)
  have HR5 := hide ((unhide HR5).call kb)
  have HA1 := hide ((unhide HA1).call kb)
  have HR6 := hide ((unhide HR6).call kb)
  have HR7 := hide ((unhide HR7).call kb)
  have HA2 := hide ((unhide HA2).call kb)
  have HR8 := hide ((unhide HR8).call kb)
  have AN2 := hide ((unhide AN2).call kb)
  clear kb
  have RW4 := hide ((unhide HR4).roww (unhide HH1).1 (show e1 < hi1 by have := (unhide HH1).2; omega))
  have RW5 := hide ((unhide HR5).roww (show mid ≤ e2 by have := unhide HH1; omega) (unhide HH1).2.2.1)
  have RW6 := hide ((unhide HR6).roww (unhide HHI).1 (show e3 < i0 by have := (unhide HHI).2; omega))
  have RW7 := hide ((unhide HR7).roww (show hi1 ≤ e4 by have := unhide HHI; omega) (unhide HHI).2.2.1)
  have a0 := (unhide HA0).1
  have a1 := (unhide HA0).2.1
  have a2 := (unhide HA0).2.2.1
  go_wp2_with fail
  refine (markDecl_c c1 c2 c3 _ _ _ _ _ _ lo mid 1 (by omega) mv mf mr _ (show mid ≤ s4b.heap.size by have := unhide HH1; have := unhide HHI; have := unhide HI0; have := unhide HSZ; omega) ⟨(unhide HMID).1, (unhide HMID).2.1, (unhide HMID).2.2.1, (unhide HMID).2.2.2.1⟩ (unhide HR1).wr (unhide HR2).wr (unhide HR3).wr).mono ?_
  rintro e s5 ⟨rfl, m4⟩
  clear a0 a1 a2
  have HB := hide ((unhide HB).mid m4 (by have := unhide HLO; have := unhide HMID; have := unhide HH1; have := unhide HHI; have := unhide HI0; have := unhide HI2; omega) (by have := unhide HLO; have := unhide HMID; have := unhide HH1; have := unhide HHI; have := unhide HI0; have := unhide HI2; omega) (by have := unhide HLO; have := unhide HMID; have := unhide HH1; have := unhide HHI; have := unhide HI0; have := unhide HI2; omega) (by have := unhide HLO; have := unhide HMID; have := unhide HH1; have := unhide HHI; have := unhide HI0; have := unhide HI2; omega))
  have AN1 := hide ((unhide AN1).mid m4 (.inl (by have := unhide HLO; have := unhide HMID; have := unhide HH1; have := unhide HHI; have := unhide HI0; have := unhide HI2; omega)) (.inr (by have := unhide HLO; have := unhide HMID; have := unhide HH1; have := unhide HHI; have := unhide HI0; have := unhide HI2; omega)))
  have HA1 := hide ((unhide HA1).mid m4 (.inr (by have := unhide HLO; have := unhide HMID; have := unhide HH1; have := unhide HHI; have := unhide HI0; have := unhide HI2; omega)))
  have HA2 := hide ((unhide HA2).mid m4 (.inr (by have := unhide HLO; have := unhide HMID; have := unhide HH1; have := unhide HHI; have := unhide HI0; have := unhide HI2; omega)))
  have HR8 := hide ((unhide HR8).mid m4 (.inr (by have := unhide HLO; have := unhide HMID; have := unhide HH1; have := unhide HHI; have := unhide HI0; have := unhide HI2; omega)))
  have AN2 := hide ((unhide AN2).mid m4 (.inr (by have := unhide HLO; have := unhide HMID; have := unhide HH1; have := unhide HHI; have := unhide HI0; have := unhide HI2; omega)) (.inl (by have := unhide HLO; have := unhide HMID; have := unhide HH1; have := unhide HHI; have := unhide HI0; have := unhide HI2; omega)))
  have RW4 := hide ((unhide RW4).mid m4 (.inr (by have := unhide HLO; have := unhide HMID; have := unhide HH1; have := unhide HHI; have := unhide HI0; have := unhide HI2; omega)))
  have RW5 := hide ((unhide RW5).mid m4 (.inr (by have := unhide HLO; have := unhide HMID; have := unhide HH1; have := unhide HHI; have := unhide HI0; have := unhide HI2; omega)))
  have RW6 := hide ((unhide RW6).mid m4 (.inr (by have := unhide HLO; have := unhide HMID; have := unhide HH1; have := unhide HHI; have := unhide HI0; have := unhide HI2; omega)))
  have RW7 := hide ((unhide RW7).mid m4 (.inr (by have := unhide HLO; have := unhide HMID; have := unhide HH1; have := unhide HHI; have := unhide HI0; have := unhide HI2; omega)))
  have HSZ := hide (Nat.le_trans (unhide HSZ) m4.size)
  clear m4
  clear HR1 HR2 HR3 HR4 HR5 HR6 HR7 HA0
  have hk1 : 0 ≤ (1 : Int) + vs.length + fs.length + 2 * rs.length ∧ (1 : Int) + vs.length + fs.length + 2 * rs.length ≤ 10485760 := by omega
  generalize (1 : Int) + vs.length + fs.length + 2 * rs.length = k1 at hk1 ⊢
  have a0 := (unhide HA1).1
  have a1 := (unhide HA1).2.1
  have a2 := (unhide HA1).2.2.1
  go_wp2_with fail
  refine (markEnv_c li _ _ xs.length ys.length _ _ mid hi1 k1 (by omega) mx my _ (show hi1 ≤ s5.heap.size by have := unhide HHI; have := unhide HI0; have := unhide HSZ; omega) (unhide RW4) (unhide RW5) (fun x y hx hy e => by cases hx; cases hy; have : e1 = e2 := e; have := unhide HH1; omega) (fun x y hx hy e => by cases hx; cases hy; have : e2 = e1 := e; have := unhide HH1; omega)).mono ?_
  rintro e s6 ⟨rfl, _, _, m5⟩
  clear a0 a1 a2
  have HB := hide ((unhide HB).mid m5 (by have := unhide HLO; have := unhide HMID; have := unhide HH1; have := unhide HHI; have := unhide HI0; have := unhide HI2; omega) (by have := unhide HLO; have := unhide HMID; have := unhide HH1; have := unhide HHI; have := unhide HI0; have := unhide HI2; omega) (by have := unhide HLO; have := unhide HMID; have := unhide HH1; have := unhide HHI; have := unhide HI0; have := unhide HI2; omega) (by have := unhide HLO; have := unhide HMID; have := unhide HH1; have := unhide HHI; have := unhide HI0; have := unhide HI2; omega))
  have AN1 := hide ((unhide AN1).mid m5 (.inl (by have := unhide HLO; have := unhide HMID; have := unhide HH1; have := unhide HHI; have := unhide HI0; have := unhide HI2; omega)) (.inr (by have := unhide HLO; have := unhide HMID; have := unhide HH1; have := unhide HHI; have := unhide HI0; have := unhide HI2; omega)))
  have HA2 := hide ((unhide HA2).mid m5 (.inr (by have := unhide HLO; have := unhide HMID; have := unhide HH1; have := unhide HHI; have := unhide HI0; have := unhide HI2; omega)))
  have HR8 := hide ((unhide HR8).mid m5 (.inr (by have := unhide HLO; have := unhide HMID; have := unhide HH1; have := unhide HHI; have := unhide HI0; have := unhide HI2; omega)))
  have AN2 := hide ((unhide AN2).mid m5 (.inr (by have := unhide HLO; have := unhide HMID; have := unhide HH1; have := unhide HHI; have := unhide HI0; have := unhide HI2; omega)) (.inl (by have := unhide HLO; have := unhide HMID; have := unhide HH1; have := unhide HHI; have := unhide HI0; have := unhide HI2; omega)))
  have RW6 := hide ((unhide RW6).mid m5 (.inr (by have := unhide HLO; have := unhide HMID; have := unhide HH1; have := unhide HHI; have := unhide HI0; have := unhide HI2; omega)))
  have RW7 := hide ((unhide RW7).mid m5 (.inr (by have := unhide HLO; have := unhide HMID; have := unhide HH1; have := unhide HHI; have := unhide HI0; have := unhide HI2; omega)))
  have HSZ := hide (Nat.le_trans (unhide HSZ) m5.size)
  clear m5
  clear HA1 RW4 RW5
  have hk2 : 0 ≤ k1 + 2 * (xs.length : Int) + 2 * ys.length ∧ k1 + 2 * (xs.length : Int) + 2 * ys.length ≤ 20971520 := by omega
  generalize k1 + 2 * (xs.length : Int) + 2 * ys.length = k2 at hk2 ⊢
  clear hk1
  have a0 := (unhide HA2).1
  have a1 := (unhide HA2).2.1
  have a2 := (unhide HA2).2.2.1
  go_wp2_with fail
  refine (markEnv_c lj _ _ xs2.length ys2.length _ _ hi1 i0 k2 (by omega) mx2 my2 _ (show i0 ≤ s6.heap.size by have := unhide HI0; have := unhide HSZ; omega) (unhide RW6) (unhide RW7) (fun x y hx hy e => by cases hx; cases hy; have : e3 = e4 := e; have := unhide HHI; omega) (fun x y hx hy e => by cases hx; cases hy; have : e4 = e3 := e; have := unhide HHI; omega)).mono ?_
  rintro e s7 ⟨rfl, _, _, m6⟩
  clear a0 a1 a2
  have HB := hide ((unhide HB).mid m6 (by have := unhide HLO; have := unhide HMID; have := unhide HH1; have := unhide HHI; have := unhide HI0; have := unhide HI2; omega) (by have := unhide HLO; have := unhide HMID; have := unhide HH1; have := unhide HHI; have := unhide HI0; have := unhide HI2; omega) (by have := unhide HLO; have := unhide HMID; have := unhide HH1; have := unhide HHI; have := unhide HI0; have := unhide HI2; omega) (by have := unhide HLO; have := unhide HMID; have := unhide HH1; have := unhide HHI; have := unhide HI0; have := unhide HI2; omega))
  have AN1 := hide ((unhide AN1).mid m6 (.inl (by have := unhide HLO; have := unhide HMID; have := unhide HH1; have := unhide HHI; have := unhide HI0; have := unhide HI2; omega)) (.inr (by have := unhide HLO; have := unhide HMID; have := unhide HH1; have := unhide HHI; have := unhide HI0; have := unhide HI2; omega)))
  have HR8 := hide ((unhide HR8).mid m6 (.inr (by have := unhide HLO; have := unhide HMID; have := unhide HH1; have := unhide HHI; have := unhide HI0; have := unhide HI2; omega)))
  have AN2 := hide ((unhide AN2).mid m6 (.inr (by have := unhide HLO; have := unhide HMID; have := unhide HH1; have := unhide HHI; have := unhide HI0; have := unhide HI2; omega)) (.inl (by have := unhide HLO; have := unhide HMID; have := unhide HH1; have := unhide HHI; have := unhide HI0; have := unhide HI2; omega)))
  have HSZ := hide (Nat.le_trans (unhide HSZ) m6.size)
  clear m6
  clear HA2 RW6 RW7
  have hk5 : 0 ≤ k2 + 2 * (xs2.length : Int) + 2 * ys2.length ∧ k2 + 2 * (xs2.length : Int) + 2 * ys2.length ≤ 41943040 := by omega
  generalize k2 + 2 * (xs2.length : Int) + 2 * ys2.length = k5 at hk5 ⊢
  clear hk2
  go_wp2_with fail
  refine (markInt_c i0 _ _ k5 (by omega) ms _ (unhide HR8).wr).mono ?_
  rintro e s7a ⟨rfl, m6⟩
  have m6 := m6.mono (Nat.le_refl _) (show i0 + 1 ≤ hi from unhide HI0)
  have HB := hide ((unhide HB).mid m6 (by have := unhide HLO; have := unhide HMID; have := unhide HH1; have := unhide HHI; have := unhide HI0; have := unhide HI2; omega) (by have := unhide HLO; have := unhide HMID; have := unhide HH1; have := unhide HHI; have := unhide HI0; have := unhide HI2; omega) (by have := unhide HLO; have := unhide HMID; have := unhide HH1; have := unhide HHI; have := unhide HI0; have := unhide HI2; omega) (by have := unhide HLO; have := unhide HMID; have := unhide HH1; have := unhide HHI; have := unhide HI0; have := unhide HI2; omega))
  have AN1 := hide ((unhide AN1).mid m6 (.inl (by have := unhide HLO; have := unhide HMID; have := unhide HH1; have := unhide HHI; have := unhide HI0; have := unhide HI2; omega)) (.inr (by have := unhide HLO; have := unhide HMID; have := unhide HH1; have := unhide HHI; have := unhide HI0; have := unhide HI2; omega)))
  have AN2 := hide ((unhide AN2).mid m6 (.inr (by have := unhide HLO; have := unhide HMID; have := unhide HH1; have := unhide HHI; have := unhide HI0; have := unhide HI2; omega)) (.inl (by have := unhide HLO; have := unhide HMID; have := unhide HH1; have := unhide HHI; have := unhide HI0; have := unhide HI2; omega)))
  have HSZ := hide (Nat.le_trans (unhide HSZ) m6.size)
  clear m6
  clear HR8
  have hk6 : 0 ≤ k5 + (st.length : Int) := by omega
  generalize k5 + (st.length : Int) = k6 at hk6 ⊢
  clear hk5
  have a0 := (unhide AN2).1.1
  have a1 := (unhide AN2).1.2.1
  have a2 := (unhide AN2).1.2.2.1
  have b0 := (unhide AN1).1.1
  have b1 := (unhide AN1).1.2.1
  have b2 := (unhide AN1).1.2.2.1
  go_wp2_with fail
  refine (eqEnv_c ok _ _ _ _ _ _ _ _ X Y _ ((unhide AN2).2.1.1.ivs ⟨mX, mY⟩).1 ((unhide AN2).2.1.1.ivs ⟨mX, mY⟩).2 ((unhide AN1).2.1.1.ivs ⟨mX, mY⟩).1 ((unhide AN1).2.1.1.ivs ⟨mX, mY⟩).2).mono ?_
  rintro e s8 ⟨rfl, kb⟩
  clear a0 a1 a2 b0 b1 b2
  have HSZ := hide (Nat.le_trans (unhide HSZ) kb.size)
  have HB := hide ((unhide HB).call kb)
  have AN1 := hide ((unhide AN1).call kb)
  have AN2 := hide ((unhide AN2).call kb)
  clear kb
  have a0 := (unhide AN2).1.1
  have a1 := (unhide AN2).1.2.1
  have a2 := (unhide AN2).1.2.2.1
  go_wp2_with fail
  refine (markEnv_c ok _ _ X.length Y.length _ _ hi g2 1 (by omega) mX mY _ (unhide AN2).2.1.2.2.2 (unhide AN2).2.1.roww.1 (unhide AN2).2.1.roww.2 (unhide AN2).2.1.1.2.2 (unhide AN2).2.1.1.2.2.symm).mono ?_
  rintro e s9 ⟨rfl, mk1, mk2, m7⟩
  clear a0 a1 a2
  have HB := hide ((unhide HB).mid m7 (by have := unhide HLO; have := unhide HMID; have := unhide HH1; have := unhide HHI; have := unhide HI0; have := unhide HI2; omega) (by have := unhide HLO; have := unhide HMID; have := unhide HH1; have := unhide HHI; have := unhide HI0; have := unhide HI2; omega) (by have := unhide HLO; have := unhide HMID; have := unhide HH1; have := unhide HHI; have := unhide HI0; have := unhide HI2; omega) (by have := unhide HLO; have := unhide HMID; have := unhide HH1; have := unhide HHI; have := unhide HI0; have := unhide HI2; omega))
  have AN1 := hide ((unhide AN1).mid m7 (.inl (by have := unhide HLO; have := unhide HMID; have := unhide HH1; have := unhide HHI; have := unhide HI0; have := unhide HI2; omega)) (.inr (by have := unhide HLO; have := unhide HMID; have := unhide HH1; have := unhide HHI; have := unhide HI0; have := unhide HI2; omega)))
  have C2 := hide ((unhide AN2).1.mid m7 (unhide AN2).2.2)
  have MK1 := hide mk1
  have MK2 := hide mk2
  clear m7 mk1 mk2 AN2 HSZ
  have a0 := (unhide C2).1
  have a1 := (unhide C2).2.1
  have a2 := (unhide C2).2.2.1
  go_wp2_with fail
  refine (heldEnv_c ok _ _ X.length Y.length _ _ hi g2 1 (by omega) mX mY _ (unhide MK1) (unhide MK2)).mono ?_
  rintro e t0 ⟨rfl, kb⟩
  clear a0 a1 a2
  have HB := hide ((unhide HB).call kb)
  have AN1 := hide ((unhide AN1).call kb)
  have C2 := hide ((unhide C2).call kb)
  have MK1 := hide ((unhide MK1).call kb)
  have MK2 := hide ((unhide MK2).call kb)
  clear kb
  have hk3 : 0 ≤ (1 : Int) + 2 * (X.length : Int) + 2 * Y.length := by omega
  obtain ⟨k3, HK3⟩ : ∃ k, Hid ((1 : Int) + 2 * (X.length : Int) + 2 * Y.length = k) := ⟨_, rfl⟩
  rw [HK3.out] at hk3 ⊢
  have hk4 : (k3 != k3) = false := by simp
  have HS : Hid (B9 t0 w.heap.size (w.heap.size + 1) (w.heap.size + 2) (.slice va vs.length vc) (.slice fa fs.length fc) (.slice ra rs.length rc) (.bool li) (.slice xa xs.length xc) (.slice ya ys.length yc) (.bool lj) (.slice xa2 xs2.length xc2) (.slice ya2 ys2.length yc2) t0) := ⟨(unhide HB).1, (unhide HB).2.1, (unhide HB).2.2.1, Below.refl _ _⟩
  have HP : Hid (w.heap.size < t0.heap.size ∧ w.heap.size + 1 < t0.heap.size ∧ w.heap.size + 2 < t0.heap.size) := ⟨(unhide HB).1.lt, (unhide HB).2.1.lt, (unhide HB).2.2.1.lt⟩
  have SVU := hide ((unhide SV).call (unhide HB).2.2.2)
  have SFU := hide ((unhide SF).call (unhide HB).2.2.2)
  have SRU := hide ((unhide SR).call (unhide HB).2.2.2)
  have SXU := hide ((unhide SX).call (unhide HB).2.2.2)
  have SYU := hide ((unhide SY).call (unhide HB).2.2.2)
  have SX2U := hide ((unhide SX2).call (unhide HB).2.2.2)
  have SY2U := hide ((unhide SY2).call (unhide HB).2.2.2)
  have SIU := hide ((unhide SI).call (unhide HB).2.2.2)
  have HWU := hide ((unhide HW).call (unhide HB).2.2.2)
  go_upto_region 44 with fail
  go_cut [19] (fun q wc => ∃ g B T oa ca ob cb, q = .pointer (some ⟨g, 0, none⟩) ∧ Ans g B T ok oa ca ob cb X Y wc ∧ t0.heap.size ≤ B ∧ t0.heap.size ≤ g ∧ Below t0.heap.size t0 wc)
  case first =>
    have hk := hide (G9.drew (G9.of (unhide HS)))
    obtain ⟨wz0, hw0⟩ : ∃ x, x = t0.drew := ⟨_, rfl⟩
    rw [← hw0] at hk
    refine wp_region_held_drew (S := (G9 t0 (w.heap.size) (w.heap.size + 1) (w.heap.size + 2) (.slice va vs.length vc) (.slice fa fs.length fc) (.slice ra rs.length rc) (.bool li) (.slice xa xs.length xc) (.slice ya ys.length yc) (.bool lj) (.slice xa2 xs2.length xc2) (.slice ya2 ys2.length yc2))) (by kernel_rfl) (by rw [← hw0]; exact unhide hk) (fun hHeld => ?_)
    rw [← hw0] at hHeld ⊢
    clear hw0
    refine wpAnyH_take (i := 0) (oi := { dst := some 115, op := Op.load 25 (Operand.tmp 4), type := 25, pos := "exact.go:2698", after := #[], guard := none }) (v := ?_) rfl (by kernel_rfl) (by kernel_rfl) (by kernel_rfl) (fun _ _ _ h => h) (Or.inl ⟨by rfl, ?_⟩) (by assumption) ?_
    rotate_left
    · (intro w hSw; (try dsimp only at hSw); go_simp; try with_reducible rfl)
    try simp only [Act.put, List.setIfInBounds_toArray, List.set_cons_zero, List.set_cons_succ]
    refine wpAnyH_take (i := 2) (oi := { dst := some 117, op := Op.load 28 (Operand.tmp 5), type := 28, pos := "exact.go:2698", after := #[], guard := none }) (v := ?_) rfl (by kernel_rfl) (by kernel_rfl) (by kernel_rfl) (fun _ _ _ h => h) (Or.inl ⟨by rfl, ?_⟩) (by assumption) ?_
    rotate_left
    · (intro w hSw; (try dsimp only at hSw); go_simp; try with_reducible rfl)
    try simp only [Act.put, List.setIfInBounds_toArray, List.set_cons_zero, List.set_cons_succ]
    refine wpAnyH_take (i := 4) (oi := { dst := some 119, op := Op.load 28 (Operand.tmp 6), type := 28, pos := "exact.go:2698", after := #[], guard := none }) (v := ?_) rfl (by kernel_rfl) (by kernel_rfl) (by kernel_rfl) (fun _ _ _ h => h) (Or.inl ⟨by rfl, ?_⟩) (by assumption) ?_
    rotate_left
    · (intro w hSw; (try dsimp only at hSw); go_simp; try with_reducible rfl)
    try simp only [Act.put, List.setIfInBounds_toArray, List.set_cons_zero, List.set_cons_succ]
    refine wpAnyH_take (i := 6) (oi := { dst := some 121, op := Op.move (Operand.tmp 3), type := 29, pos := "exact.go:2698", after := #[], guard := none }) (v := ?_) rfl (by kernel_rfl) (by kernel_rfl) (by kernel_rfl) (fun _ _ _ h => h) (Or.inl ⟨by rfl, ?_⟩) (by assumption) ?_
    rotate_left
    · (intro w hSw; (try dsimp only at hSw); go_simp; try with_reducible rfl)
    try simp only [Act.put, List.setIfInBounds_toArray, List.set_cons_zero, List.set_cons_succ]
    refine wpAnyH_ready (rs := [1, 9]) (by kernel_rfl) (by simp) ?_
    refine AllReadyH.cons (i := 1) (o := { dst := some 116, op := Op.call { callee := Callee.value (Operand.func 11), args := #[Operand.tmp 115], argTypes := #[25] }, type := 40, pos := "exact.go:2698", after := #[{ on := 0, ground := Ground.data }], guard := none }) rfl (fun K hK => ?_) (AllReadyH.cons (i := 9) (o := { dst := some 19, op := Op.alloc 44, type := 0, pos := "exact.go:2698", after := #[], guard := none }) rfl (fun K hK => ?_) AllReadyH.nil)
    · go_simp
      refine (toDecl_c va fa ra vc fc rc vs fs rs _ ((unhide SVU).call (unhide hk).bel) ((unhide SFU).call (unhide hk).bel) ((unhide SRU).call (unhide hk).bel)).mono ?_
      rintro e wz1 ⟨b1, b2, b3, rfl, Q1, Q2, Q3, _, hb⟩
      have hk := hide ((unhide hk).call hb)
      clear hb
      have HQ1 := hide Q1
      clear Q1
      have HQ2 := hide Q2
      clear Q2
      have HQ3 := hide Q3
      clear Q3
      refine hK.out _ _ (unhide hk) (fun hHeld => ?_)
      clear hK K
      try simp only [Act.put, List.setIfInBounds_toArray, List.set_cons_zero, List.set_cons_succ]
      refine wpAnyH_ready (rs := [3, 9]) (by kernel_rfl) (by simp) ?_
      refine AllReadyH.cons (i := 3) (o := { dst := some 118, op := Op.call { callee := Callee.value (Operand.func 12), args := #[Operand.tmp 117], argTypes := #[28] }, type := 44, pos := "exact.go:2698", after := #[{ on := 2, ground := Ground.data }, { on := 1, ground := Ground.chain }], guard := none }) rfl (fun K hK => ?_) (AllReadyH.cons (i := 9) (o := { dst := some 19, op := Op.alloc 44, type := 0, pos := "exact.go:2698", after := #[], guard := none }) rfl (fun K hK => ?_) AllReadyH.nil)
      · go_simp
        refine (toEnv_c li xa ya xc yc xs ys _ ((unhide SXU).call (unhide hk).bel) ((unhide SYU).call (unhide hk).bel)).mono ?_
        rintro e wz2 ⟨d1, d2, rfl, Q4, Q5, _, hb⟩
        have hk := hide ((unhide hk).call hb)
        have HQ1 := hide ((unhide HQ1).call hb)
        have HQ2 := hide ((unhide HQ2).call hb)
        have HQ3 := hide ((unhide HQ3).call hb)
        clear hb
        have HQ4 := hide Q4
        clear Q4
        have HQ5 := hide Q5
        clear Q5
        refine hK.out _ _ (unhide hk) (fun hHeld => ?_)
        clear hK K
        try simp only [Act.put, List.setIfInBounds_toArray, List.set_cons_zero, List.set_cons_succ]
        refine wpAnyH_ready (rs := [5, 9]) (by kernel_rfl) (by simp) ?_
        refine AllReadyH.cons (i := 5) (o := { dst := some 120, op := Op.call { callee := Callee.value (Operand.func 12), args := #[Operand.tmp 119], argTypes := #[28] }, type := 44, pos := "exact.go:2698", after := #[{ on := 4, ground := Ground.data }, { on := 3, ground := Ground.chain }], guard := none }) rfl (fun K hK => ?_) (AllReadyH.cons (i := 9) (o := { dst := some 19, op := Op.alloc 44, type := 0, pos := "exact.go:2698", after := #[], guard := none }) rfl (fun K hK => ?_) AllReadyH.nil)
        · go_simp
          refine (toEnv_c lj xa2 ya2 xc2 yc2 xs2 ys2 _ ((unhide SX2U).call (unhide hk).bel) ((unhide SY2U).call (unhide hk).bel)).mono ?_
          rintro e wz3 ⟨d3, d4, rfl, QA, QB, _, hb⟩
          have hk := hide ((unhide hk).call hb)
          have HQ1 := hide ((unhide HQ1).call hb)
          have HQ2 := hide ((unhide HQ2).call hb)
          have HQ3 := hide ((unhide HQ3).call hb)
          have HQ4 := hide ((unhide HQ4).call hb)
          have HQ5 := hide ((unhide HQ5).call hb)
          clear hb
          have HQA := hide QA
          clear QA
          have HQB := hide QB
          clear QB
          refine hK.out _ _ (unhide hk) (fun hHeld => ?_)
          clear hK K
          try simp only [Act.put, List.setIfInBounds_toArray, List.set_cons_zero, List.set_cons_succ]
          refine wpAnyH_ready (rs := [7, 9]) (by kernel_rfl) (by simp) ?_
          refine AllReadyH.cons (i := 7) (o := { dst := some 122, op := Op.call { callee := Callee.value (Operand.func 26), args := #[Operand.tmp 121], argTypes := #[29] }, type := 29, pos := "exact.go:2698", after := #[{ on := 6, ground := Ground.data }, { on := 5, ground := Ground.chain }], guard := none }) rfl (fun K hK => ?_) (AllReadyH.cons (i := 9) (o := { dst := some 19, op := Op.alloc 44, type := 0, pos := "exact.go:2698", after := #[], guard := none }) rfl (fun K hK => ?_) AllReadyH.nil)
          · go_simp
            refine (toInt64S_c sa sc st _ ((unhide SIU).call (unhide hk).bel)).mono ?_
            rintro e wz4 ⟨rfl, QC, hb⟩
            generalize hib : wz3.heap.size = ib at QC ⊢
            clear hib
            have hk := hide ((unhide hk).call hb)
            have HQ1 := hide ((unhide HQ1).call hb)
            have HQ2 := hide ((unhide HQ2).call hb)
            have HQ3 := hide ((unhide HQ3).call hb)
            have HQ4 := hide ((unhide HQ4).call hb)
            have HQ5 := hide ((unhide HQ5).call hb)
            have HQA := hide ((unhide HQA).call hb)
            have HQB := hide ((unhide HQB).call hb)
            clear hb
            have HQC := hide QC
            clear QC
            refine hK.out _ _ (unhide hk) (fun hHeld => ?_)
            clear hK K
            try simp only [Act.put, List.setIfInBounds_toArray, List.set_cons_zero, List.set_cons_succ]
            refine wpAnyH_ready (rs := [8, 9]) (by kernel_rfl) (by simp) ?_
            refine AllReadyH.cons (i := 8) (o := { dst := some 123, op := Op.call { callee := Callee.value (Operand.func 27), args := #[Operand.tmp 116, Operand.tmp 118, Operand.tmp 120, Operand.tmp 122], argTypes := #[40, 44, 44, 29] }, type := 44, pos := "exact.go:2698", after := #[{ on := 1, ground := Ground.data }, { on := 3, ground := Ground.data }, { on := 5, ground := Ground.data }, { on := 7, ground := Ground.data }, { on := 7, ground := Ground.chain }], guard := none }) rfl (fun K hK => ?_) (AllReadyH.cons (i := 9) (o := { dst := some 19, op := Op.alloc 44, type := 0, pos := "exact.go:2698", after := #[], guard := none }) rfl (fun K hK => ?_) AllReadyH.nil)
            · go_simp
              refine (iEnvWiden_c b1 b2 b3 _ _ _ vs fs rs li d1 d2 _ _ xs ys lj d3 d4 _ _ xs2 ys2 _ _ st _ ((unhide HWU).call (unhide hk).bel) (unhide HQ1).1 (unhide HQ2).1 (unhide HQ3).1 (unhide HZ) (unhide HQ4).1 (unhide HQ5).1 (unhide HQA).1 (unhide HQB).1 (unhide HQC).1).mono ?_
              rintro e wz5 ⟨oa, ca, ob, cb, rfl, RE, hb⟩
              rw [← unhide HOKE, ← unhide HXE, ← unhide HYE]
              rw [← unhide HXE, ← unhide HYE] at RE
              have HR := RowsT.of RE
              have hlb : t0.heap.size ≤ wz4.heap.size := (unhide hk).bel.size
              generalize wz4.heap.size = Bz at HR hlb
              generalize wz5.heap.size = Tz at HR
              have HR := hide HR
              have HLB := hide hlb
              clear hlb RE
              have hk := hide ((unhide hk).call hb)
              have HQ1 := hide ((unhide HQ1).call hb)
              have HQ2 := hide ((unhide HQ2).call hb)
              have HQ3 := hide ((unhide HQ3).call hb)
              have HQ4 := hide ((unhide HQ4).call hb)
              have HQ5 := hide ((unhide HQ5).call hb)
              have HQA := hide ((unhide HQA).call hb)
              have HQB := hide ((unhide HQB).call hb)
              have HQC := hide ((unhide HQC).call hb)
              clear hb
              refine hK.out _ _ (unhide hk) (fun hHeld => ?_)
              clear hK K
              try simp only [Act.put, List.setIfInBounds_toArray, List.set_cons_zero, List.set_cons_succ]
              refine wpAnyH_ready (rs := [9]) (by kernel_rfl) (by simp) ?_
              refine AllReadyH.cons (i := 9) (o := { dst := some 19, op := Op.alloc 44, type := 0, pos := "exact.go:2698", after := #[], guard := none }) rfl (fun K hK => ?_) AllReadyH.nil
              have HA := C3.new wz5 (.bool false) (.slice none 0 0) (.slice none 0 0) 44
              have hlg : t0.heap.size ≤ wz5.heap.size := (unhide hk).bel.size
              have hn : Tz ≤ wz5.heap.size := (unhide HR).2.2.2
              have ka := (Below.refl _ wz5).alloc (Nat.le_refl _) (Obj.cells #[.bool false, .slice none 0 0, .slice none 0 0] 44)
              have hk := hide ((unhide hk).call ka)
              have HQ1 := hide ((unhide HQ1).call ka)
              have HQ2 := hide ((unhide HQ2).call ka)
              have HQ3 := hide ((unhide HQ3).call ka)
              have HQ4 := hide ((unhide HQ4).call ka)
              have HQ5 := hide ((unhide HQ5).call ka)
              have HQA := hide ((unhide HQA).call ka)
              have HQB := hide ((unhide HQB).call ka)
              have HQC := hide ((unhide HQC).call ka)
              have HR := hide ((unhide HR).call ka)
              clear ka
              go_simp
              refine hK.out _ _ (unhide hk) (fun hHeld => ?_)
              clear hK K
              try simp only [Act.put, List.setIfInBounds_toArray, List.set_cons_zero, List.set_cons_succ]
              clear hHeld
              generalize hg : wz5.alloc (Obj.cells #[.bool false, .slice none 0 0, .slice none 0 0] 44) = wz6 at HA hk HQ1 HQ2 HQ3 HQ4 HQ5 HQA HQB HQC HR ⊢
              clear hg
              have hHeld := unhide hk
              generalize wz5.heap.size = bz at HA hlg hn ⊢
              have HA := hide HA
              have HLG := hide hlg
              have HN : Hid (bz < Bz ∨ Tz ≤ bz) := Or.inr hn
              clear hlg hn
              refine wpAnyH_ready (rs := [10]) (by kernel_rfl) (by simp) ?_
              refine AllReadyH.cons (i := 10) (o := { dst := none, op := Op.store 44 (Operand.tmp 19) (Operand.tmp 123), type := 0, pos := "exact.go:2698", after := #[{ on := 9, ground := Ground.data }, { on := 8, ground := Ground.data }, { on := 8, ground := Ground.chain }, { on := 0, ground := Ground.phase }, { on := 1, ground := Ground.phase }, { on := 2, ground := Ground.phase }, { on := 3, ground := Ground.phase }, { on := 4, ground := Ground.phase }, { on := 5, ground := Ground.phase }, { on := 6, ground := Ground.phase }, { on := 7, ground := Ground.phase }, { on := 8, ground := Ground.phase }, { on := 9, ground := Ground.phase }], guard := none }) rfl (fun K hK => ?_) AllReadyH.nil
              obtain ⟨c0, c1_, c2_, cf⟩ := unhide HA
              have f0 := cf 0
              have f1 := cf 1
              have f2 := cf 2
              clear cf
              go_simp
              refine hK.out _ _ ?_ (fun hHeld => ?_)
              · exact G9.of ((((unhide hk).b9.set (unhide HP).1 (unhide HP).2.1 (unhide HP).2.2 (unhide HLG) _).set (unhide HP).1 (unhide HP).2.1 (unhide HP).2.2 (unhide HLG) _).set (unhide HP).1 (unhide HP).2.1 (unhide HP).2.2 (unhide HLG) _)
              clear hK K c0 c1_ c2_ f0 f1 f2 hHeld
              try simp only [Act.put, List.setIfInBounds_toArray, List.set_cons_zero, List.set_cons_succ]
              refine wpAnyH_done (by kernel_rfl) ?_ _
              go_wp2_with fail
              go_meet
              exact ⟨bz, Bz, Tz, oa, ca, ob, cb, rfl, Ans.stored (unhide HA) (unhide HR) (unhide HN), unhide HLB, unhide HLG, bel_set (bel_set (bel_set (unhide hk).bel (unhide HLG)) (unhide HLG)) (unhide HLG)⟩
            · have HA := C3.new wz4 (.bool false) (.slice none 0 0) (.slice none 0 0) 44
              have hlg : t0.heap.size ≤ wz4.heap.size := (unhide hk).bel.size
              have ka := (Below.refl _ wz4).alloc (Nat.le_refl _) (Obj.cells #[.bool false, .slice none 0 0, .slice none 0 0] 44)
              have hk := hide ((unhide hk).call ka)
              have HQ1 := hide ((unhide HQ1).call ka)
              have HQ2 := hide ((unhide HQ2).call ka)
              have HQ3 := hide ((unhide HQ3).call ka)
              have HQ4 := hide ((unhide HQ4).call ka)
              have HQ5 := hide ((unhide HQ5).call ka)
              have HQA := hide ((unhide HQA).call ka)
              have HQB := hide ((unhide HQB).call ka)
              have HQC := hide ((unhide HQC).call ka)
              clear ka
              go_simp
              refine hK.out _ _ (unhide hk) (fun hHeld => ?_)
              clear hK K
              try simp only [Act.put, List.setIfInBounds_toArray, List.set_cons_zero, List.set_cons_succ]
              clear hHeld
              generalize hg : wz4.alloc (Obj.cells #[.bool false, .slice none 0 0, .slice none 0 0] 44) = wz5 at HA hk HQ1 HQ2 HQ3 HQ4 HQ5 HQA HQB HQC ⊢
              clear hg
              have hHeld := unhide hk
              generalize wz4.heap.size = bz at HA hlg ⊢
              have HA := hide HA
              have HLG := hide hlg
              clear hlg
              refine wpAnyH_ready (rs := [8]) (by kernel_rfl) (by simp) ?_
              refine AllReadyH.cons (i := 8) (o := { dst := some 123, op := Op.call { callee := Callee.value (Operand.func 27), args := #[Operand.tmp 116, Operand.tmp 118, Operand.tmp 120, Operand.tmp 122], argTypes := #[40, 44, 44, 29] }, type := 44, pos := "exact.go:2698", after := #[{ on := 1, ground := Ground.data }, { on := 3, ground := Ground.data }, { on := 5, ground := Ground.data }, { on := 7, ground := Ground.data }, { on := 7, ground := Ground.chain }], guard := none }) rfl (fun K hK => ?_) AllReadyH.nil
              go_simp
              refine (iEnvWiden_c b1 b2 b3 _ _ _ vs fs rs li d1 d2 _ _ xs ys lj d3 d4 _ _ xs2 ys2 _ _ st _ ((unhide HWU).call (unhide hk).bel) (unhide HQ1).1 (unhide HQ2).1 (unhide HQ3).1 (unhide HZ) (unhide HQ4).1 (unhide HQ5).1 (unhide HQA).1 (unhide HQB).1 (unhide HQC).1).mono ?_
              rintro e wz6 ⟨oa, ca, ob, cb, rfl, RE, hb⟩
              rw [← unhide HOKE, ← unhide HXE, ← unhide HYE]
              rw [← unhide HXE, ← unhide HYE] at RE
              have HR := RowsT.of RE
              have hlb : t0.heap.size ≤ wz5.heap.size := (unhide hk).bel.size
              have hn : bz < wz5.heap.size := (unhide HA).lt
              generalize wz5.heap.size = Bz at HR hlb hn
              generalize wz6.heap.size = Tz at HR
              have HR := hide HR
              have HLB := hide hlb
              have HN : Hid (bz < Bz ∨ Tz ≤ bz) := Or.inl hn
              clear hlb RE hn
              have hk := hide ((unhide hk).call hb)
              have HQ1 := hide ((unhide HQ1).call hb)
              have HQ2 := hide ((unhide HQ2).call hb)
              have HQ3 := hide ((unhide HQ3).call hb)
              have HQ4 := hide ((unhide HQ4).call hb)
              have HQ5 := hide ((unhide HQ5).call hb)
              have HQA := hide ((unhide HQA).call hb)
              have HQB := hide ((unhide HQB).call hb)
              have HQC := hide ((unhide HQC).call hb)
              have HA := hide ((unhide HA).call hb)
              clear hb
              refine hK.out _ _ (unhide hk) (fun hHeld => ?_)
              clear hK K
              try simp only [Act.put, List.setIfInBounds_toArray, List.set_cons_zero, List.set_cons_succ]
              refine wpAnyH_ready (rs := [10]) (by kernel_rfl) (by simp) ?_
              refine AllReadyH.cons (i := 10) (o := { dst := none, op := Op.store 44 (Operand.tmp 19) (Operand.tmp 123), type := 0, pos := "exact.go:2698", after := #[{ on := 9, ground := Ground.data }, { on := 8, ground := Ground.data }, { on := 8, ground := Ground.chain }, { on := 0, ground := Ground.phase }, { on := 1, ground := Ground.phase }, { on := 2, ground := Ground.phase }, { on := 3, ground := Ground.phase }, { on := 4, ground := Ground.phase }, { on := 5, ground := Ground.phase }, { on := 6, ground := Ground.phase }, { on := 7, ground := Ground.phase }, { on := 8, ground := Ground.phase }, { on := 9, ground := Ground.phase }], guard := none }) rfl (fun K hK => ?_) AllReadyH.nil
              obtain ⟨c0, c1_, c2_, cf⟩ := unhide HA
              have f0 := cf 0
              have f1 := cf 1
              have f2 := cf 2
              clear cf
              go_simp
              refine hK.out _ _ ?_ (fun hHeld => ?_)
              · exact G9.of ((((unhide hk).b9.set (unhide HP).1 (unhide HP).2.1 (unhide HP).2.2 (unhide HLG) _).set (unhide HP).1 (unhide HP).2.1 (unhide HP).2.2 (unhide HLG) _).set (unhide HP).1 (unhide HP).2.1 (unhide HP).2.2 (unhide HLG) _)
              clear hK K c0 c1_ c2_ f0 f1 f2 hHeld
              try simp only [Act.put, List.setIfInBounds_toArray, List.set_cons_zero, List.set_cons_succ]
              refine wpAnyH_done (by kernel_rfl) ?_ _
              go_wp2_with fail
              go_meet
              exact ⟨bz, Bz, Tz, oa, ca, ob, cb, rfl, Ans.stored (unhide HA) (unhide HR) (unhide HN), unhide HLB, unhide HLG, bel_set (bel_set (bel_set (unhide hk).bel (unhide HLG)) (unhide HLG)) (unhide HLG)⟩
          · have HA := C3.new wz3 (.bool false) (.slice none 0 0) (.slice none 0 0) 44
            have hlg : t0.heap.size ≤ wz3.heap.size := (unhide hk).bel.size
            have ka := (Below.refl _ wz3).alloc (Nat.le_refl _) (Obj.cells #[.bool false, .slice none 0 0, .slice none 0 0] 44)
            have hk := hide ((unhide hk).call ka)
            have HQ1 := hide ((unhide HQ1).call ka)
            have HQ2 := hide ((unhide HQ2).call ka)
            have HQ3 := hide ((unhide HQ3).call ka)
            have HQ4 := hide ((unhide HQ4).call ka)
            have HQ5 := hide ((unhide HQ5).call ka)
            have HQA := hide ((unhide HQA).call ka)
            have HQB := hide ((unhide HQB).call ka)
            clear ka
            go_simp
            refine hK.out _ _ (unhide hk) (fun hHeld => ?_)
            clear hK K
            try simp only [Act.put, List.setIfInBounds_toArray, List.set_cons_zero, List.set_cons_succ]
            clear hHeld
            generalize hg : wz3.alloc (Obj.cells #[.bool false, .slice none 0 0, .slice none 0 0] 44) = wz4 at HA hk HQ1 HQ2 HQ3 HQ4 HQ5 HQA HQB ⊢
            clear hg
            have hHeld := unhide hk
            generalize wz3.heap.size = bz at HA hlg ⊢
            have HA := hide HA
            have HLG := hide hlg
            clear hlg
            refine wpAnyH_ready (rs := [7]) (by kernel_rfl) (by simp) ?_
            refine AllReadyH.cons (i := 7) (o := { dst := some 122, op := Op.call { callee := Callee.value (Operand.func 26), args := #[Operand.tmp 121], argTypes := #[29] }, type := 29, pos := "exact.go:2698", after := #[{ on := 6, ground := Ground.data }, { on := 5, ground := Ground.chain }], guard := none }) rfl (fun K hK => ?_) AllReadyH.nil
            go_simp
            refine (toInt64S_c sa sc st _ ((unhide SIU).call (unhide hk).bel)).mono ?_
            rintro e wz5 ⟨rfl, QC, hb⟩
            generalize hib : wz4.heap.size = ib at QC ⊢
            clear hib
            have hk := hide ((unhide hk).call hb)
            have HQ1 := hide ((unhide HQ1).call hb)
            have HQ2 := hide ((unhide HQ2).call hb)
            have HQ3 := hide ((unhide HQ3).call hb)
            have HQ4 := hide ((unhide HQ4).call hb)
            have HQ5 := hide ((unhide HQ5).call hb)
            have HQA := hide ((unhide HQA).call hb)
            have HQB := hide ((unhide HQB).call hb)
            have HA := hide ((unhide HA).call hb)
            clear hb
            have HQC := hide QC
            clear QC
            refine hK.out _ _ (unhide hk) (fun hHeld => ?_)
            clear hK K
            try simp only [Act.put, List.setIfInBounds_toArray, List.set_cons_zero, List.set_cons_succ]
            refine wpAnyH_ready (rs := [8]) (by kernel_rfl) (by simp) ?_
            refine AllReadyH.cons (i := 8) (o := { dst := some 123, op := Op.call { callee := Callee.value (Operand.func 27), args := #[Operand.tmp 116, Operand.tmp 118, Operand.tmp 120, Operand.tmp 122], argTypes := #[40, 44, 44, 29] }, type := 44, pos := "exact.go:2698", after := #[{ on := 1, ground := Ground.data }, { on := 3, ground := Ground.data }, { on := 5, ground := Ground.data }, { on := 7, ground := Ground.data }, { on := 7, ground := Ground.chain }], guard := none }) rfl (fun K hK => ?_) AllReadyH.nil
            go_simp
            refine (iEnvWiden_c b1 b2 b3 _ _ _ vs fs rs li d1 d2 _ _ xs ys lj d3 d4 _ _ xs2 ys2 _ _ st _ ((unhide HWU).call (unhide hk).bel) (unhide HQ1).1 (unhide HQ2).1 (unhide HQ3).1 (unhide HZ) (unhide HQ4).1 (unhide HQ5).1 (unhide HQA).1 (unhide HQB).1 (unhide HQC).1).mono ?_
            rintro e wz6 ⟨oa, ca, ob, cb, rfl, RE, hb⟩
            rw [← unhide HOKE, ← unhide HXE, ← unhide HYE]
            rw [← unhide HXE, ← unhide HYE] at RE
            have HR := RowsT.of RE
            have hlb : t0.heap.size ≤ wz5.heap.size := (unhide hk).bel.size
            have hn : bz < wz5.heap.size := (unhide HA).lt
            generalize wz5.heap.size = Bz at HR hlb hn
            generalize wz6.heap.size = Tz at HR
            have HR := hide HR
            have HLB := hide hlb
            have HN : Hid (bz < Bz ∨ Tz ≤ bz) := Or.inl hn
            clear hlb RE hn
            have hk := hide ((unhide hk).call hb)
            have HQ1 := hide ((unhide HQ1).call hb)
            have HQ2 := hide ((unhide HQ2).call hb)
            have HQ3 := hide ((unhide HQ3).call hb)
            have HQ4 := hide ((unhide HQ4).call hb)
            have HQ5 := hide ((unhide HQ5).call hb)
            have HQA := hide ((unhide HQA).call hb)
            have HQB := hide ((unhide HQB).call hb)
            have HQC := hide ((unhide HQC).call hb)
            have HA := hide ((unhide HA).call hb)
            clear hb
            refine hK.out _ _ (unhide hk) (fun hHeld => ?_)
            clear hK K
            try simp only [Act.put, List.setIfInBounds_toArray, List.set_cons_zero, List.set_cons_succ]
            refine wpAnyH_ready (rs := [10]) (by kernel_rfl) (by simp) ?_
            refine AllReadyH.cons (i := 10) (o := { dst := none, op := Op.store 44 (Operand.tmp 19) (Operand.tmp 123), type := 0, pos := "exact.go:2698", after := #[{ on := 9, ground := Ground.data }, { on := 8, ground := Ground.data }, { on := 8, ground := Ground.chain }, { on := 0, ground := Ground.phase }, { on := 1, ground := Ground.phase }, { on := 2, ground := Ground.phase }, { on := 3, ground := Ground.phase }, { on := 4, ground := Ground.phase }, { on := 5, ground := Ground.phase }, { on := 6, ground := Ground.phase }, { on := 7, ground := Ground.phase }, { on := 8, ground := Ground.phase }, { on := 9, ground := Ground.phase }], guard := none }) rfl (fun K hK => ?_) AllReadyH.nil
            obtain ⟨c0, c1_, c2_, cf⟩ := unhide HA
            have f0 := cf 0
            have f1 := cf 1
            have f2 := cf 2
            clear cf
            go_simp
            refine hK.out _ _ ?_ (fun hHeld => ?_)
            · exact G9.of ((((unhide hk).b9.set (unhide HP).1 (unhide HP).2.1 (unhide HP).2.2 (unhide HLG) _).set (unhide HP).1 (unhide HP).2.1 (unhide HP).2.2 (unhide HLG) _).set (unhide HP).1 (unhide HP).2.1 (unhide HP).2.2 (unhide HLG) _)
            clear hK K c0 c1_ c2_ f0 f1 f2 hHeld
            try simp only [Act.put, List.setIfInBounds_toArray, List.set_cons_zero, List.set_cons_succ]
            refine wpAnyH_done (by kernel_rfl) ?_ _
            go_wp2_with fail
            go_meet
            exact ⟨bz, Bz, Tz, oa, ca, ob, cb, rfl, Ans.stored (unhide HA) (unhide HR) (unhide HN), unhide HLB, unhide HLG, bel_set (bel_set (bel_set (unhide hk).bel (unhide HLG)) (unhide HLG)) (unhide HLG)⟩
        · have HA := C3.new wz2 (.bool false) (.slice none 0 0) (.slice none 0 0) 44
          have hlg : t0.heap.size ≤ wz2.heap.size := (unhide hk).bel.size
          have ka := (Below.refl _ wz2).alloc (Nat.le_refl _) (Obj.cells #[.bool false, .slice none 0 0, .slice none 0 0] 44)
          have hk := hide ((unhide hk).call ka)
          have HQ1 := hide ((unhide HQ1).call ka)
          have HQ2 := hide ((unhide HQ2).call ka)
          have HQ3 := hide ((unhide HQ3).call ka)
          have HQ4 := hide ((unhide HQ4).call ka)
          have HQ5 := hide ((unhide HQ5).call ka)
          clear ka
          go_simp
          refine hK.out _ _ (unhide hk) (fun hHeld => ?_)
          clear hK K
          try simp only [Act.put, List.setIfInBounds_toArray, List.set_cons_zero, List.set_cons_succ]
          clear hHeld
          generalize hg : wz2.alloc (Obj.cells #[.bool false, .slice none 0 0, .slice none 0 0] 44) = wz3 at HA hk HQ1 HQ2 HQ3 HQ4 HQ5 ⊢
          clear hg
          have hHeld := unhide hk
          generalize wz2.heap.size = bz at HA hlg ⊢
          have HA := hide HA
          have HLG := hide hlg
          clear hlg
          refine wpAnyH_ready (rs := [5]) (by kernel_rfl) (by simp) ?_
          refine AllReadyH.cons (i := 5) (o := { dst := some 120, op := Op.call { callee := Callee.value (Operand.func 12), args := #[Operand.tmp 119], argTypes := #[28] }, type := 44, pos := "exact.go:2698", after := #[{ on := 4, ground := Ground.data }, { on := 3, ground := Ground.chain }], guard := none }) rfl (fun K hK => ?_) AllReadyH.nil
          go_simp
          refine (toEnv_c lj xa2 ya2 xc2 yc2 xs2 ys2 _ ((unhide SX2U).call (unhide hk).bel) ((unhide SY2U).call (unhide hk).bel)).mono ?_
          rintro e wz4 ⟨d3, d4, rfl, QA, QB, _, hb⟩
          have hk := hide ((unhide hk).call hb)
          have HQ1 := hide ((unhide HQ1).call hb)
          have HQ2 := hide ((unhide HQ2).call hb)
          have HQ3 := hide ((unhide HQ3).call hb)
          have HQ4 := hide ((unhide HQ4).call hb)
          have HQ5 := hide ((unhide HQ5).call hb)
          have HA := hide ((unhide HA).call hb)
          clear hb
          have HQA := hide QA
          clear QA
          have HQB := hide QB
          clear QB
          refine hK.out _ _ (unhide hk) (fun hHeld => ?_)
          clear hK K
          try simp only [Act.put, List.setIfInBounds_toArray, List.set_cons_zero, List.set_cons_succ]
          refine wpAnyH_ready (rs := [7]) (by kernel_rfl) (by simp) ?_
          refine AllReadyH.cons (i := 7) (o := { dst := some 122, op := Op.call { callee := Callee.value (Operand.func 26), args := #[Operand.tmp 121], argTypes := #[29] }, type := 29, pos := "exact.go:2698", after := #[{ on := 6, ground := Ground.data }, { on := 5, ground := Ground.chain }], guard := none }) rfl (fun K hK => ?_) AllReadyH.nil
          go_simp
          refine (toInt64S_c sa sc st _ ((unhide SIU).call (unhide hk).bel)).mono ?_
          rintro e wz5 ⟨rfl, QC, hb⟩
          generalize hib : wz4.heap.size = ib at QC ⊢
          clear hib
          have hk := hide ((unhide hk).call hb)
          have HQ1 := hide ((unhide HQ1).call hb)
          have HQ2 := hide ((unhide HQ2).call hb)
          have HQ3 := hide ((unhide HQ3).call hb)
          have HQ4 := hide ((unhide HQ4).call hb)
          have HQ5 := hide ((unhide HQ5).call hb)
          have HQA := hide ((unhide HQA).call hb)
          have HQB := hide ((unhide HQB).call hb)
          have HA := hide ((unhide HA).call hb)
          clear hb
          have HQC := hide QC
          clear QC
          refine hK.out _ _ (unhide hk) (fun hHeld => ?_)
          clear hK K
          try simp only [Act.put, List.setIfInBounds_toArray, List.set_cons_zero, List.set_cons_succ]
          refine wpAnyH_ready (rs := [8]) (by kernel_rfl) (by simp) ?_
          refine AllReadyH.cons (i := 8) (o := { dst := some 123, op := Op.call { callee := Callee.value (Operand.func 27), args := #[Operand.tmp 116, Operand.tmp 118, Operand.tmp 120, Operand.tmp 122], argTypes := #[40, 44, 44, 29] }, type := 44, pos := "exact.go:2698", after := #[{ on := 1, ground := Ground.data }, { on := 3, ground := Ground.data }, { on := 5, ground := Ground.data }, { on := 7, ground := Ground.data }, { on := 7, ground := Ground.chain }], guard := none }) rfl (fun K hK => ?_) AllReadyH.nil
          go_simp
          refine (iEnvWiden_c b1 b2 b3 _ _ _ vs fs rs li d1 d2 _ _ xs ys lj d3 d4 _ _ xs2 ys2 _ _ st _ ((unhide HWU).call (unhide hk).bel) (unhide HQ1).1 (unhide HQ2).1 (unhide HQ3).1 (unhide HZ) (unhide HQ4).1 (unhide HQ5).1 (unhide HQA).1 (unhide HQB).1 (unhide HQC).1).mono ?_
          rintro e wz6 ⟨oa, ca, ob, cb, rfl, RE, hb⟩
          rw [← unhide HOKE, ← unhide HXE, ← unhide HYE]
          rw [← unhide HXE, ← unhide HYE] at RE
          have HR := RowsT.of RE
          have hlb : t0.heap.size ≤ wz5.heap.size := (unhide hk).bel.size
          have hn : bz < wz5.heap.size := (unhide HA).lt
          generalize wz5.heap.size = Bz at HR hlb hn
          generalize wz6.heap.size = Tz at HR
          have HR := hide HR
          have HLB := hide hlb
          have HN : Hid (bz < Bz ∨ Tz ≤ bz) := Or.inl hn
          clear hlb RE hn
          have hk := hide ((unhide hk).call hb)
          have HQ1 := hide ((unhide HQ1).call hb)
          have HQ2 := hide ((unhide HQ2).call hb)
          have HQ3 := hide ((unhide HQ3).call hb)
          have HQ4 := hide ((unhide HQ4).call hb)
          have HQ5 := hide ((unhide HQ5).call hb)
          have HQA := hide ((unhide HQA).call hb)
          have HQB := hide ((unhide HQB).call hb)
          have HQC := hide ((unhide HQC).call hb)
          have HA := hide ((unhide HA).call hb)
          clear hb
          refine hK.out _ _ (unhide hk) (fun hHeld => ?_)
          clear hK K
          try simp only [Act.put, List.setIfInBounds_toArray, List.set_cons_zero, List.set_cons_succ]
          refine wpAnyH_ready (rs := [10]) (by kernel_rfl) (by simp) ?_
          refine AllReadyH.cons (i := 10) (o := { dst := none, op := Op.store 44 (Operand.tmp 19) (Operand.tmp 123), type := 0, pos := "exact.go:2698", after := #[{ on := 9, ground := Ground.data }, { on := 8, ground := Ground.data }, { on := 8, ground := Ground.chain }, { on := 0, ground := Ground.phase }, { on := 1, ground := Ground.phase }, { on := 2, ground := Ground.phase }, { on := 3, ground := Ground.phase }, { on := 4, ground := Ground.phase }, { on := 5, ground := Ground.phase }, { on := 6, ground := Ground.phase }, { on := 7, ground := Ground.phase }, { on := 8, ground := Ground.phase }, { on := 9, ground := Ground.phase }], guard := none }) rfl (fun K hK => ?_) AllReadyH.nil
          obtain ⟨c0, c1_, c2_, cf⟩ := unhide HA
          have f0 := cf 0
          have f1 := cf 1
          have f2 := cf 2
          clear cf
          go_simp
          refine hK.out _ _ ?_ (fun hHeld => ?_)
          · exact G9.of ((((unhide hk).b9.set (unhide HP).1 (unhide HP).2.1 (unhide HP).2.2 (unhide HLG) _).set (unhide HP).1 (unhide HP).2.1 (unhide HP).2.2 (unhide HLG) _).set (unhide HP).1 (unhide HP).2.1 (unhide HP).2.2 (unhide HLG) _)
          clear hK K c0 c1_ c2_ f0 f1 f2 hHeld
          try simp only [Act.put, List.setIfInBounds_toArray, List.set_cons_zero, List.set_cons_succ]
          refine wpAnyH_done (by kernel_rfl) ?_ _
          go_wp2_with fail
          go_meet
          exact ⟨bz, Bz, Tz, oa, ca, ob, cb, rfl, Ans.stored (unhide HA) (unhide HR) (unhide HN), unhide HLB, unhide HLG, bel_set (bel_set (bel_set (unhide hk).bel (unhide HLG)) (unhide HLG)) (unhide HLG)⟩
      · have HA := C3.new wz1 (.bool false) (.slice none 0 0) (.slice none 0 0) 44
        have hlg : t0.heap.size ≤ wz1.heap.size := (unhide hk).bel.size
        have ka := (Below.refl _ wz1).alloc (Nat.le_refl _) (Obj.cells #[.bool false, .slice none 0 0, .slice none 0 0] 44)
        have hk := hide ((unhide hk).call ka)
        have HQ1 := hide ((unhide HQ1).call ka)
        have HQ2 := hide ((unhide HQ2).call ka)
        have HQ3 := hide ((unhide HQ3).call ka)
        clear ka
        go_simp
        refine hK.out _ _ (unhide hk) (fun hHeld => ?_)
        clear hK K
        try simp only [Act.put, List.setIfInBounds_toArray, List.set_cons_zero, List.set_cons_succ]
        clear hHeld
        generalize hg : wz1.alloc (Obj.cells #[.bool false, .slice none 0 0, .slice none 0 0] 44) = wz2 at HA hk HQ1 HQ2 HQ3 ⊢
        clear hg
        have hHeld := unhide hk
        generalize wz1.heap.size = bz at HA hlg ⊢
        have HA := hide HA
        have HLG := hide hlg
        clear hlg
        refine wpAnyH_ready (rs := [3]) (by kernel_rfl) (by simp) ?_
        refine AllReadyH.cons (i := 3) (o := { dst := some 118, op := Op.call { callee := Callee.value (Operand.func 12), args := #[Operand.tmp 117], argTypes := #[28] }, type := 44, pos := "exact.go:2698", after := #[{ on := 2, ground := Ground.data }, { on := 1, ground := Ground.chain }], guard := none }) rfl (fun K hK => ?_) AllReadyH.nil
        go_simp
        refine (toEnv_c li xa ya xc yc xs ys _ ((unhide SXU).call (unhide hk).bel) ((unhide SYU).call (unhide hk).bel)).mono ?_
        rintro e wz3 ⟨d1, d2, rfl, Q4, Q5, _, hb⟩
        have hk := hide ((unhide hk).call hb)
        have HQ1 := hide ((unhide HQ1).call hb)
        have HQ2 := hide ((unhide HQ2).call hb)
        have HQ3 := hide ((unhide HQ3).call hb)
        have HA := hide ((unhide HA).call hb)
        clear hb
        have HQ4 := hide Q4
        clear Q4
        have HQ5 := hide Q5
        clear Q5
        refine hK.out _ _ (unhide hk) (fun hHeld => ?_)
        clear hK K
        try simp only [Act.put, List.setIfInBounds_toArray, List.set_cons_zero, List.set_cons_succ]
        refine wpAnyH_ready (rs := [5]) (by kernel_rfl) (by simp) ?_
        refine AllReadyH.cons (i := 5) (o := { dst := some 120, op := Op.call { callee := Callee.value (Operand.func 12), args := #[Operand.tmp 119], argTypes := #[28] }, type := 44, pos := "exact.go:2698", after := #[{ on := 4, ground := Ground.data }, { on := 3, ground := Ground.chain }], guard := none }) rfl (fun K hK => ?_) AllReadyH.nil
        go_simp
        refine (toEnv_c lj xa2 ya2 xc2 yc2 xs2 ys2 _ ((unhide SX2U).call (unhide hk).bel) ((unhide SY2U).call (unhide hk).bel)).mono ?_
        rintro e wz4 ⟨d3, d4, rfl, QA, QB, _, hb⟩
        have hk := hide ((unhide hk).call hb)
        have HQ1 := hide ((unhide HQ1).call hb)
        have HQ2 := hide ((unhide HQ2).call hb)
        have HQ3 := hide ((unhide HQ3).call hb)
        have HQ4 := hide ((unhide HQ4).call hb)
        have HQ5 := hide ((unhide HQ5).call hb)
        have HA := hide ((unhide HA).call hb)
        clear hb
        have HQA := hide QA
        clear QA
        have HQB := hide QB
        clear QB
        refine hK.out _ _ (unhide hk) (fun hHeld => ?_)
        clear hK K
        try simp only [Act.put, List.setIfInBounds_toArray, List.set_cons_zero, List.set_cons_succ]
        refine wpAnyH_ready (rs := [7]) (by kernel_rfl) (by simp) ?_
        refine AllReadyH.cons (i := 7) (o := { dst := some 122, op := Op.call { callee := Callee.value (Operand.func 26), args := #[Operand.tmp 121], argTypes := #[29] }, type := 29, pos := "exact.go:2698", after := #[{ on := 6, ground := Ground.data }, { on := 5, ground := Ground.chain }], guard := none }) rfl (fun K hK => ?_) AllReadyH.nil
        go_simp
        refine (toInt64S_c sa sc st _ ((unhide SIU).call (unhide hk).bel)).mono ?_
        rintro e wz5 ⟨rfl, QC, hb⟩
        generalize hib : wz4.heap.size = ib at QC ⊢
        clear hib
        have hk := hide ((unhide hk).call hb)
        have HQ1 := hide ((unhide HQ1).call hb)
        have HQ2 := hide ((unhide HQ2).call hb)
        have HQ3 := hide ((unhide HQ3).call hb)
        have HQ4 := hide ((unhide HQ4).call hb)
        have HQ5 := hide ((unhide HQ5).call hb)
        have HQA := hide ((unhide HQA).call hb)
        have HQB := hide ((unhide HQB).call hb)
        have HA := hide ((unhide HA).call hb)
        clear hb
        have HQC := hide QC
        clear QC
        refine hK.out _ _ (unhide hk) (fun hHeld => ?_)
        clear hK K
        try simp only [Act.put, List.setIfInBounds_toArray, List.set_cons_zero, List.set_cons_succ]
        refine wpAnyH_ready (rs := [8]) (by kernel_rfl) (by simp) ?_
        refine AllReadyH.cons (i := 8) (o := { dst := some 123, op := Op.call { callee := Callee.value (Operand.func 27), args := #[Operand.tmp 116, Operand.tmp 118, Operand.tmp 120, Operand.tmp 122], argTypes := #[40, 44, 44, 29] }, type := 44, pos := "exact.go:2698", after := #[{ on := 1, ground := Ground.data }, { on := 3, ground := Ground.data }, { on := 5, ground := Ground.data }, { on := 7, ground := Ground.data }, { on := 7, ground := Ground.chain }], guard := none }) rfl (fun K hK => ?_) AllReadyH.nil
        go_simp
        refine (iEnvWiden_c b1 b2 b3 _ _ _ vs fs rs li d1 d2 _ _ xs ys lj d3 d4 _ _ xs2 ys2 _ _ st _ ((unhide HWU).call (unhide hk).bel) (unhide HQ1).1 (unhide HQ2).1 (unhide HQ3).1 (unhide HZ) (unhide HQ4).1 (unhide HQ5).1 (unhide HQA).1 (unhide HQB).1 (unhide HQC).1).mono ?_
        rintro e wz6 ⟨oa, ca, ob, cb, rfl, RE, hb⟩
        rw [← unhide HOKE, ← unhide HXE, ← unhide HYE]
        rw [← unhide HXE, ← unhide HYE] at RE
        have HR := RowsT.of RE
        have hlb : t0.heap.size ≤ wz5.heap.size := (unhide hk).bel.size
        have hn : bz < wz5.heap.size := (unhide HA).lt
        generalize wz5.heap.size = Bz at HR hlb hn
        generalize wz6.heap.size = Tz at HR
        have HR := hide HR
        have HLB := hide hlb
        have HN : Hid (bz < Bz ∨ Tz ≤ bz) := Or.inl hn
        clear hlb RE hn
        have hk := hide ((unhide hk).call hb)
        have HQ1 := hide ((unhide HQ1).call hb)
        have HQ2 := hide ((unhide HQ2).call hb)
        have HQ3 := hide ((unhide HQ3).call hb)
        have HQ4 := hide ((unhide HQ4).call hb)
        have HQ5 := hide ((unhide HQ5).call hb)
        have HQA := hide ((unhide HQA).call hb)
        have HQB := hide ((unhide HQB).call hb)
        have HQC := hide ((unhide HQC).call hb)
        have HA := hide ((unhide HA).call hb)
        clear hb
        refine hK.out _ _ (unhide hk) (fun hHeld => ?_)
        clear hK K
        try simp only [Act.put, List.setIfInBounds_toArray, List.set_cons_zero, List.set_cons_succ]
        refine wpAnyH_ready (rs := [10]) (by kernel_rfl) (by simp) ?_
        refine AllReadyH.cons (i := 10) (o := { dst := none, op := Op.store 44 (Operand.tmp 19) (Operand.tmp 123), type := 0, pos := "exact.go:2698", after := #[{ on := 9, ground := Ground.data }, { on := 8, ground := Ground.data }, { on := 8, ground := Ground.chain }, { on := 0, ground := Ground.phase }, { on := 1, ground := Ground.phase }, { on := 2, ground := Ground.phase }, { on := 3, ground := Ground.phase }, { on := 4, ground := Ground.phase }, { on := 5, ground := Ground.phase }, { on := 6, ground := Ground.phase }, { on := 7, ground := Ground.phase }, { on := 8, ground := Ground.phase }, { on := 9, ground := Ground.phase }], guard := none }) rfl (fun K hK => ?_) AllReadyH.nil
        obtain ⟨c0, c1_, c2_, cf⟩ := unhide HA
        have f0 := cf 0
        have f1 := cf 1
        have f2 := cf 2
        clear cf
        go_simp
        refine hK.out _ _ ?_ (fun hHeld => ?_)
        · exact G9.of ((((unhide hk).b9.set (unhide HP).1 (unhide HP).2.1 (unhide HP).2.2 (unhide HLG) _).set (unhide HP).1 (unhide HP).2.1 (unhide HP).2.2 (unhide HLG) _).set (unhide HP).1 (unhide HP).2.1 (unhide HP).2.2 (unhide HLG) _)
        clear hK K c0 c1_ c2_ f0 f1 f2 hHeld
        try simp only [Act.put, List.setIfInBounds_toArray, List.set_cons_zero, List.set_cons_succ]
        refine wpAnyH_done (by kernel_rfl) ?_ _
        go_wp2_with fail
        go_meet
        exact ⟨bz, Bz, Tz, oa, ca, ob, cb, rfl, Ans.stored (unhide HA) (unhide HR) (unhide HN), unhide HLB, unhide HLG, bel_set (bel_set (bel_set (unhide hk).bel (unhide HLG)) (unhide HLG)) (unhide HLG)⟩
    · have HA := C3.new wz0 (.bool false) (.slice none 0 0) (.slice none 0 0) 44
      have hlg : t0.heap.size ≤ wz0.heap.size := (unhide hk).bel.size
      have ka := (Below.refl _ wz0).alloc (Nat.le_refl _) (Obj.cells #[.bool false, .slice none 0 0, .slice none 0 0] 44)
      have hk := hide ((unhide hk).call ka)
      clear ka
      go_simp
      refine hK.out _ _ (unhide hk) (fun hHeld => ?_)
      clear hK K
      try simp only [Act.put, List.setIfInBounds_toArray, List.set_cons_zero, List.set_cons_succ]
      clear hHeld
      generalize hg : wz0.alloc (Obj.cells #[.bool false, .slice none 0 0, .slice none 0 0] 44) = wz1 at HA hk  ⊢
      clear hg
      have hHeld := unhide hk
      generalize wz0.heap.size = bz at HA hlg ⊢
      have HA := hide HA
      have HLG := hide hlg
      clear hlg
      refine wpAnyH_ready (rs := [1]) (by kernel_rfl) (by simp) ?_
      refine AllReadyH.cons (i := 1) (o := { dst := some 116, op := Op.call { callee := Callee.value (Operand.func 11), args := #[Operand.tmp 115], argTypes := #[25] }, type := 40, pos := "exact.go:2698", after := #[{ on := 0, ground := Ground.data }], guard := none }) rfl (fun K hK => ?_) AllReadyH.nil
      go_simp
      refine (toDecl_c va fa ra vc fc rc vs fs rs _ ((unhide SVU).call (unhide hk).bel) ((unhide SFU).call (unhide hk).bel) ((unhide SRU).call (unhide hk).bel)).mono ?_
      rintro e wz2 ⟨b1, b2, b3, rfl, Q1, Q2, Q3, _, hb⟩
      have hk := hide ((unhide hk).call hb)
      have HA := hide ((unhide HA).call hb)
      clear hb
      have HQ1 := hide Q1
      clear Q1
      have HQ2 := hide Q2
      clear Q2
      have HQ3 := hide Q3
      clear Q3
      refine hK.out _ _ (unhide hk) (fun hHeld => ?_)
      clear hK K
      try simp only [Act.put, List.setIfInBounds_toArray, List.set_cons_zero, List.set_cons_succ]
      refine wpAnyH_ready (rs := [3]) (by kernel_rfl) (by simp) ?_
      refine AllReadyH.cons (i := 3) (o := { dst := some 118, op := Op.call { callee := Callee.value (Operand.func 12), args := #[Operand.tmp 117], argTypes := #[28] }, type := 44, pos := "exact.go:2698", after := #[{ on := 2, ground := Ground.data }, { on := 1, ground := Ground.chain }], guard := none }) rfl (fun K hK => ?_) AllReadyH.nil
      go_simp
      refine (toEnv_c li xa ya xc yc xs ys _ ((unhide SXU).call (unhide hk).bel) ((unhide SYU).call (unhide hk).bel)).mono ?_
      rintro e wz3 ⟨d1, d2, rfl, Q4, Q5, _, hb⟩
      have hk := hide ((unhide hk).call hb)
      have HQ1 := hide ((unhide HQ1).call hb)
      have HQ2 := hide ((unhide HQ2).call hb)
      have HQ3 := hide ((unhide HQ3).call hb)
      have HA := hide ((unhide HA).call hb)
      clear hb
      have HQ4 := hide Q4
      clear Q4
      have HQ5 := hide Q5
      clear Q5
      refine hK.out _ _ (unhide hk) (fun hHeld => ?_)
      clear hK K
      try simp only [Act.put, List.setIfInBounds_toArray, List.set_cons_zero, List.set_cons_succ]
      refine wpAnyH_ready (rs := [5]) (by kernel_rfl) (by simp) ?_
      refine AllReadyH.cons (i := 5) (o := { dst := some 120, op := Op.call { callee := Callee.value (Operand.func 12), args := #[Operand.tmp 119], argTypes := #[28] }, type := 44, pos := "exact.go:2698", after := #[{ on := 4, ground := Ground.data }, { on := 3, ground := Ground.chain }], guard := none }) rfl (fun K hK => ?_) AllReadyH.nil
      go_simp
      refine (toEnv_c lj xa2 ya2 xc2 yc2 xs2 ys2 _ ((unhide SX2U).call (unhide hk).bel) ((unhide SY2U).call (unhide hk).bel)).mono ?_
      rintro e wz4 ⟨d3, d4, rfl, QA, QB, _, hb⟩
      have hk := hide ((unhide hk).call hb)
      have HQ1 := hide ((unhide HQ1).call hb)
      have HQ2 := hide ((unhide HQ2).call hb)
      have HQ3 := hide ((unhide HQ3).call hb)
      have HQ4 := hide ((unhide HQ4).call hb)
      have HQ5 := hide ((unhide HQ5).call hb)
      have HA := hide ((unhide HA).call hb)
      clear hb
      have HQA := hide QA
      clear QA
      have HQB := hide QB
      clear QB
      refine hK.out _ _ (unhide hk) (fun hHeld => ?_)
      clear hK K
      try simp only [Act.put, List.setIfInBounds_toArray, List.set_cons_zero, List.set_cons_succ]
      refine wpAnyH_ready (rs := [7]) (by kernel_rfl) (by simp) ?_
      refine AllReadyH.cons (i := 7) (o := { dst := some 122, op := Op.call { callee := Callee.value (Operand.func 26), args := #[Operand.tmp 121], argTypes := #[29] }, type := 29, pos := "exact.go:2698", after := #[{ on := 6, ground := Ground.data }, { on := 5, ground := Ground.chain }], guard := none }) rfl (fun K hK => ?_) AllReadyH.nil
      go_simp
      refine (toInt64S_c sa sc st _ ((unhide SIU).call (unhide hk).bel)).mono ?_
      rintro e wz5 ⟨rfl, QC, hb⟩
      generalize hib : wz4.heap.size = ib at QC ⊢
      clear hib
      have hk := hide ((unhide hk).call hb)
      have HQ1 := hide ((unhide HQ1).call hb)
      have HQ2 := hide ((unhide HQ2).call hb)
      have HQ3 := hide ((unhide HQ3).call hb)
      have HQ4 := hide ((unhide HQ4).call hb)
      have HQ5 := hide ((unhide HQ5).call hb)
      have HQA := hide ((unhide HQA).call hb)
      have HQB := hide ((unhide HQB).call hb)
      have HA := hide ((unhide HA).call hb)
      clear hb
      have HQC := hide QC
      clear QC
      refine hK.out _ _ (unhide hk) (fun hHeld => ?_)
      clear hK K
      try simp only [Act.put, List.setIfInBounds_toArray, List.set_cons_zero, List.set_cons_succ]
      refine wpAnyH_ready (rs := [8]) (by kernel_rfl) (by simp) ?_
      refine AllReadyH.cons (i := 8) (o := { dst := some 123, op := Op.call { callee := Callee.value (Operand.func 27), args := #[Operand.tmp 116, Operand.tmp 118, Operand.tmp 120, Operand.tmp 122], argTypes := #[40, 44, 44, 29] }, type := 44, pos := "exact.go:2698", after := #[{ on := 1, ground := Ground.data }, { on := 3, ground := Ground.data }, { on := 5, ground := Ground.data }, { on := 7, ground := Ground.data }, { on := 7, ground := Ground.chain }], guard := none }) rfl (fun K hK => ?_) AllReadyH.nil
      go_simp
      refine (iEnvWiden_c b1 b2 b3 _ _ _ vs fs rs li d1 d2 _ _ xs ys lj d3 d4 _ _ xs2 ys2 _ _ st _ ((unhide HWU).call (unhide hk).bel) (unhide HQ1).1 (unhide HQ2).1 (unhide HQ3).1 (unhide HZ) (unhide HQ4).1 (unhide HQ5).1 (unhide HQA).1 (unhide HQB).1 (unhide HQC).1).mono ?_
      rintro e wz6 ⟨oa, ca, ob, cb, rfl, RE, hb⟩
      rw [← unhide HOKE, ← unhide HXE, ← unhide HYE]
      rw [← unhide HXE, ← unhide HYE] at RE
      have HR := RowsT.of RE
      have hlb : t0.heap.size ≤ wz5.heap.size := (unhide hk).bel.size
      have hn : bz < wz5.heap.size := (unhide HA).lt
      generalize wz5.heap.size = Bz at HR hlb hn
      generalize wz6.heap.size = Tz at HR
      have HR := hide HR
      have HLB := hide hlb
      have HN : Hid (bz < Bz ∨ Tz ≤ bz) := Or.inl hn
      clear hlb RE hn
      have hk := hide ((unhide hk).call hb)
      have HQ1 := hide ((unhide HQ1).call hb)
      have HQ2 := hide ((unhide HQ2).call hb)
      have HQ3 := hide ((unhide HQ3).call hb)
      have HQ4 := hide ((unhide HQ4).call hb)
      have HQ5 := hide ((unhide HQ5).call hb)
      have HQA := hide ((unhide HQA).call hb)
      have HQB := hide ((unhide HQB).call hb)
      have HQC := hide ((unhide HQC).call hb)
      have HA := hide ((unhide HA).call hb)
      clear hb
      refine hK.out _ _ (unhide hk) (fun hHeld => ?_)
      clear hK K
      try simp only [Act.put, List.setIfInBounds_toArray, List.set_cons_zero, List.set_cons_succ]
      refine wpAnyH_ready (rs := [10]) (by kernel_rfl) (by simp) ?_
      refine AllReadyH.cons (i := 10) (o := { dst := none, op := Op.store 44 (Operand.tmp 19) (Operand.tmp 123), type := 0, pos := "exact.go:2698", after := #[{ on := 9, ground := Ground.data }, { on := 8, ground := Ground.data }, { on := 8, ground := Ground.chain }, { on := 0, ground := Ground.phase }, { on := 1, ground := Ground.phase }, { on := 2, ground := Ground.phase }, { on := 3, ground := Ground.phase }, { on := 4, ground := Ground.phase }, { on := 5, ground := Ground.phase }, { on := 6, ground := Ground.phase }, { on := 7, ground := Ground.phase }, { on := 8, ground := Ground.phase }, { on := 9, ground := Ground.phase }], guard := none }) rfl (fun K hK => ?_) AllReadyH.nil
      obtain ⟨c0, c1_, c2_, cf⟩ := unhide HA
      have f0 := cf 0
      have f1 := cf 1
      have f2 := cf 2
      clear cf
      go_simp
      refine hK.out _ _ ?_ (fun hHeld => ?_)
      · exact G9.of ((((unhide hk).b9.set (unhide HP).1 (unhide HP).2.1 (unhide HP).2.2 (unhide HLG) _).set (unhide HP).1 (unhide HP).2.1 (unhide HP).2.2 (unhide HLG) _).set (unhide HP).1 (unhide HP).2.1 (unhide HP).2.2 (unhide HLG) _)
      clear hK K c0 c1_ c2_ f0 f1 f2 hHeld
      try simp only [Act.put, List.setIfInBounds_toArray, List.set_cons_zero, List.set_cons_succ]
      refine wpAnyH_done (by kernel_rfl) ?_ _
      go_wp2_with fail
      go_meet
      exact ⟨bz, Bz, Tz, oa, ca, ob, cb, rfl, Ans.stored (unhide HA) (unhide HR) (unhide HN), unhide HLB, unhide HLG, bel_set (bel_set (bel_set (unhide hk).bel (unhide HLG)) (unhide HLG)) (unhide HLG)⟩
  case rest =>
  obtain ⟨g3, B3_, T3, ra_, rc_, rb_, rd_, rfl, hans, _, _, hbel⟩ := hcut
  have HB := hide ((unhide HB).call hbel)
  have AN1 := hide ((unhide AN1).call hbel)
  have C2 := hide ((unhide C2).call hbel)
  have MK1 := hide ((unhide MK1).call hbel)
  have MK2 := hide ((unhide MK2).call hbel)
  have AN3 := hide hans
  clear hans hbel HS HP SVU SFU SRU SXU SYU SX2U SY2U SIU HWU
  have a0 := (unhide AN3).1.1
  have a1 := (unhide AN3).1.2.1
  have a2 := (unhide AN3).1.2.2.1
  have b0 := (unhide AN1).1.1
  have b1 := (unhide AN1).1.2.1
  have b2 := (unhide AN1).1.2.2.1
  go_wp2_with fail
  refine (eqEnv_c ok _ _ _ _ _ _ _ _ X Y _ ((unhide AN3).2.1.1.ivs ⟨mX, mY⟩).1 ((unhide AN3).2.1.1.ivs ⟨mX, mY⟩).2 ((unhide AN1).2.1.1.ivs ⟨mX, mY⟩).1 ((unhide AN1).2.1.1.ivs ⟨mX, mY⟩).2).mono ?_
  rintro e t1 ⟨rfl, kb⟩
  clear a0 a1 a2 b0 b1 b2
  clear AN3
  have HB := hide ((unhide HB).call kb)
  have AN1 := hide ((unhide AN1).call kb)
  have C2 := hide ((unhide C2).call kb)
  have MK1 := hide ((unhide MK1).call kb)
  have MK2 := hide ((unhide MK2).call kb)
  clear kb
  have a0 := (unhide C2).1
  have a1 := (unhide C2).2.1
  have a2 := (unhide C2).2.2.1
  go_wp2_with fail
  refine (heldEnv_c ok _ _ X.length Y.length _ _ hi g2 1 (by omega) mX mY _ (unhide MK1) (unhide MK2)).mono ?_
  rintro e t2 ⟨rfl, kb⟩
  clear a0 a1 a2
  have HB := hide ((unhide HB).call kb)
  have AN1 := hide ((unhide AN1).call kb)
  have C2 := hide ((unhide C2).call kb)
  have MK1 := hide ((unhide MK1).call kb)
  have MK2 := hide ((unhide MK2).call kb)
  clear kb
  rw [show (1 : Int) + 2 * (X.length : Int) + 2 * Y.length = k3 from HK3.out]
  go_wp2
  go_ret
  exact ⟨rfl, (unhide HB).2.2.2⟩
end Go.Proofs.YtgjlbekkifiinaaDoor
