/- The law on EnvPut: its walk. -/
import Derived.Test.YtnmpfnhjjbankaaDoorLawW
import Derived.Test.YtnmpfnhjjbankaaDoorPutZ
namespace Go.Proofs.YtnmpfnhjjbankaaDoor
open Go.RowKit
set_option linter.unusedSimpArgs false
set_option linter.unusedVariables false

set_option maxRecDepth 20000 in
set_option maxHeartbeats 32000000 in
theorem lawEnvPut (va fa ra : Option Addr) (vc fc rc : Nat) (vs fs : List ByteArray) (rs : List (ByteArray × Int)) (li : Bool) (xa ya : Option Addr) (xc yc : Nat) (xs ys : List (Int × Int)) (v pl ph al ah : Int) (w : World) (hw : KW w) (hv : StrsA w va vs) (hf : StrsA w fa fs) (hr : ArrsA w ra rs) (hx : IvsA w xa xs) (hy : IvsA w ya ys) (_ : -9223372036854775808 ≤ v ∧ v ≤ 9223372036854775807) (_ : -9223372036854775808 ≤ pl ∧ pl ≤ 9223372036854775807) (_ : -9223372036854775808 ≤ ph ∧ ph ≤ 9223372036854775807) (_ : -9223372036854775808 ≤ al ∧ al ≤ 9223372036854775807) (_ : -9223372036854775808 ≤ ah ∧ ah ≤ 9223372036854775807) :
    Calls Tryd.prog 5 #[.agg #[.slice va vs.length vc, .slice fa fs.length fc, .slice ra rs.length rc], .agg #[.bool li, .slice xa xs.length xc, .slice ya ys.length yc], .int .i64 v, .agg #[.int .i64 pl, .int .i64 ph], .agg #[.int .i64 al, .int .i64 ah]] w fun e w' => e = .returned (.bool true) ∧ Below w.heap.size w w' := by
  have HW := hide hw
  have HV := hide hv
  have HF := hide hf
  have HR := hide hr
  have HX := hide hx
  have HY := hide hy
  have HB := hide (BA.new w (.slice va vs.length vc) (.slice fa fs.length fc) (.slice ra rs.length rc) (.bool li) (.slice xa xs.length xc) (.slice ya ys.length yc) (.int .i64 pl) (.int .i64 ph) (.int .i64 al) (.int .i64 ah) 25 44 57 57)
  clear hw hv hf hr hx hy
  go_enter Tryd.func5, Tryd.ntmps5
  go_wp2_with fail
  generalize (((w.alloc (Obj.cells #[.slice va vs.length vc, .slice fa fs.length fc, .slice ra rs.length rc] 25)).alloc (Obj.cells #[.bool li, .slice xa xs.length xc, .slice ya ys.length yc] 44)).alloc (Obj.cells #[.int .i64 pl, .int .i64 ph] 57)).alloc (Obj.cells #[.int .i64 al, .int .i64 ah] 57) = k0 at HB ⊢
  refine (szDecl_c va fa ra vc fc rc vs fs rs 1048576 (by decide) (by decide) _ ((unhide HV).call (unhide HB).2.2.2.2) ((unhide HF).call (unhide HB).2.2.2.2) ((unhide HR).call (unhide HB).2.2.2.2)).mono ?_
  rintro e v0 ⟨rfl, kb⟩
  have HB := hide ((unhide HB).call kb)
  have hok := @szD_ok vs fs rs 1048576 (by decide) (by decide)
  clear kb
  generalize szD vs fs rs 1048576 = left0 at hok ⊢
  by_cases hn : left0 < 0
  · clear hok
    go_wp2
    go_ret
    exact ⟨rfl, (unhide HB).2.2.2.2⟩
  obtain ⟨⟨l1, l2, l3⟩, hz, l4_0⟩ := hok (by omega)
  have SV := hide (Strs.ofA (unhide HV) l1)
  have SF := hide (Strs.ofA (unhide HF) l2)
  have SR := hide (Arrs.ofA (unhide HR) l3)
  have HZ := hide hz
  have ln_0 : 0 ≤ left0 := by omega
  have mv : vs.length ≤ 1048576 := (unhide SV).1
  have mf : fs.length ≤ 1048576 := (unhide SF).1
  have mr : rs.length ≤ 1048576 := (unhide SR).1
  clear hok hz HV HF HR hn l1 l2 l3
  have p0 := (unhide HB).2.1.1
  have p1 := (unhide HB).2.1.2.1
  have p2 := (unhide HB).2.1.2.2.1
  go_wp2_with fail
  refine (szEnv_c li xa ya xc yc xs.length ys.length left0 ln_0 l4_0 _ (unhide HX).1 (unhide HY).1).mono ?_
  rintro e v1 ⟨rfl, kb⟩
  have HB := hide ((unhide HB).call kb)
  have hok := szE_le xs.length ys.length left0 ln_0
  clear kb p0 p1 p2
  generalize szE xs.length ys.length left0 = left1 at hok ⊢
  by_cases hn : left1 < 0
  · clear hok
    go_wp2
    go_ret
    exact ⟨rfl, (unhide HB).2.2.2.2⟩
  obtain ⟨l1, l2⟩ := hok.2.2 (by omega)
  have SX := hide (Ivs.ofA (unhide HX) (by omega))
  have SY := hide (Ivs.ofA (unhide HY) (by omega))
  have mx : xs.length ≤ 1048576 := (unhide SX).1
  have my : ys.length ≤ 1048576 := (unhide SY).1
  have ln_1 : 0 ≤ left1 := by omega
  clear hok HX HY hn l1 l2 ln_0 l4_0
  obtain ⟨ok, HOKE⟩ : ∃ ok, Hid (ok = putL vs fs rs li xs ys v pl ph al ah) := ⟨_, rfl⟩
  obtain ⟨X, HXE⟩ : ∃ X, Hid (X = putX vs fs rs li xs ys v pl ph al ah) := ⟨_, rfl⟩
  obtain ⟨Y, HYE⟩ : ∃ Y, Hid (Y = putY vs fs rs li xs ys v pl ph al ah) := ⟨_, rfl⟩
  obtain ⟨A, HAE⟩ : ∃ A, Hid (A = putA vs fs rs li xs ys v pl ph al ah) := ⟨_, rfl⟩
  have hAA : (A != A) = false := by simp
  have mX : X.length ≤ 1048576 := by have := putX_len vs fs rs li xs ys v pl ph al ah; rw [← unhide HXE] at this; omega
  have mY : Y.length ≤ 1048576 := by have := putY_len vs fs rs li xs ys v pl ph al ah; rw [← unhide HYE] at this; omega
  have HS : Hid (BA v1 w.heap.size (w.heap.size + 1) (w.heap.size + 2) (w.heap.size + 3) (.slice va vs.length vc) (.slice fa fs.length fc) (.slice ra rs.length rc) (.bool li) (.slice xa xs.length xc) (.slice ya ys.length yc) (.int .i64 pl) (.int .i64 ph) (.int .i64 al) (.int .i64 ah) v1) := ⟨(unhide HB).1, (unhide HB).2.1, (unhide HB).2.2.1, (unhide HB).2.2.2.1, Below.refl _ _⟩
  have HP : Hid (w.heap.size < v1.heap.size ∧ w.heap.size + 1 < v1.heap.size ∧ w.heap.size + 2 < v1.heap.size ∧ w.heap.size + 3 < v1.heap.size) := ⟨(unhide HB).1.lt, (unhide HB).2.1.lt, World.block_lt_of_cell? _ _ (unhide HB).2.2.1.1, World.block_lt_of_cell? _ _ (unhide HB).2.2.2.1.1⟩
  have SVU := hide ((unhide SV).call (unhide HB).2.2.2.2)
  have SFU := hide ((unhide SF).call (unhide HB).2.2.2.2)
  have SRU := hide ((unhide SR).call (unhide HB).2.2.2.2)
  have SXU := hide ((unhide SX).call (unhide HB).2.2.2.2)
  have SYU := hide ((unhide SY).call (unhide HB).2.2.2.2)
  have HWU := hide ((unhide HW).call (unhide HB).2.2.2.2)
  go_upto_region 8 with fail
  go_cut [12, 13] (fun q a wc => ∃ g B T oa ca ob cb, q = .pointer (some ⟨g, 0, none⟩) ∧ a = .int .i64 A ∧ Ans g B T ok oa ca ob cb X Y wc ∧ v1.heap.size ≤ B ∧ v1.heap.size ≤ g ∧ Below v1.heap.size v1 wc)
  case first =>
    have hk := hide (GA.drew (GA.of (unhide HS)))
    obtain ⟨wz0, hw0⟩ : ∃ x, x = v1.drew := ⟨_, rfl⟩
    rw [← hw0] at hk
    refine wp_region_held_drew (S := (GA v1 (w.heap.size) (w.heap.size + 1) (w.heap.size + 2) (w.heap.size + 3) (.slice va vs.length vc) (.slice fa fs.length fc) (.slice ra rs.length rc) (.bool li) (.slice xa xs.length xc) (.slice ya ys.length yc) (.int .i64 pl) (.int .i64 ph) (.int .i64 al) (.int .i64 ah))) (by kernel_rfl) (by rw [← hw0]; exact unhide hk) (fun hHeld => ?_)
    rw [← hw0] at hHeld ⊢
    clear hw0
    refine wpAnyH_take (i := 0) (oi := { dst := some 34, op := Op.load 25 (Operand.tmp 5), type := 25, pos := "exact.go:2898", after := #[], guard := none }) (v := ?_) rfl (by kernel_rfl) (by kernel_rfl) (by kernel_rfl) (fun _ _ _ h => h) (Or.inl ⟨by rfl, ?_⟩) (by assumption) ?_
    rotate_left
    · (intro w hSw; (try dsimp only at hSw); go_simp; try with_reducible rfl)
    try simp only [Act.put, List.setIfInBounds_toArray, List.set_cons_zero, List.set_cons_succ]
    refine wpAnyH_take (i := 2) (oi := { dst := some 36, op := Op.load 44 (Operand.tmp 6), type := 44, pos := "exact.go:2898", after := #[], guard := none }) (v := ?_) rfl (by kernel_rfl) (by kernel_rfl) (by kernel_rfl) (fun _ _ _ h => h) (Or.inl ⟨by rfl, ?_⟩) (by assumption) ?_
    rotate_left
    · (intro w hSw; (try dsimp only at hSw); go_simp; try with_reducible rfl)
    try simp only [Act.put, List.setIfInBounds_toArray, List.set_cons_zero, List.set_cons_succ]
    refine wpAnyH_take (i := 4) (oi := { dst := some 38, op := Op.move (Operand.tmp 2), type := 2, pos := "exact.go:2898", after := #[], guard := none }) (v := ?_) rfl (by kernel_rfl) (by kernel_rfl) (by kernel_rfl) (fun _ _ _ h => h) (Or.inl ⟨by rfl, ?_⟩) (by assumption) ?_
    rotate_left
    · (intro w hSw; (try dsimp only at hSw); go_simp; try with_reducible rfl)
    try simp only [Act.put, List.setIfInBounds_toArray, List.set_cons_zero, List.set_cons_succ]
    refine wpAnyH_take (i := 5) (oi := { dst := some 39, op := Op.load 57 (Operand.tmp 8), type := 57, pos := "exact.go:2898", after := #[], guard := none }) (v := ?_) rfl (by kernel_rfl) (by kernel_rfl) (by kernel_rfl) (fun _ _ _ h => h) (Or.inl ⟨by rfl, ?_⟩) (by assumption) ?_
    rotate_left
    · (intro w hSw; (try dsimp only at hSw); go_simp; try with_reducible rfl)
    try simp only [Act.put, List.setIfInBounds_toArray, List.set_cons_zero, List.set_cons_succ]
    refine wpAnyH_take (i := 7) (oi := { dst := some 41, op := Op.load 57 (Operand.tmp 9), type := 57, pos := "exact.go:2898", after := #[], guard := none }) (v := ?_) rfl (by kernel_rfl) (by kernel_rfl) (by kernel_rfl) (fun _ _ _ h => h) (Or.inl ⟨by rfl, ?_⟩) (by assumption) ?_
    rotate_left
    · (intro w hSw; (try dsimp only at hSw); go_simp; try with_reducible rfl)
    try simp only [Act.put, List.setIfInBounds_toArray, List.set_cons_zero, List.set_cons_succ]
    refine wpAnyH_ready (rs := [1, 13]) (by kernel_rfl) (by simp) ?_
    refine AllReadyH.cons (i := 1) (o := { dst := some 35, op := Op.call { callee := Callee.value (Operand.func 8), args := #[Operand.tmp 34], argTypes := #[25] }, type := 35, pos := "exact.go:2898", after := #[{ on := 0, ground := Ground.data }], guard := none }) rfl (fun K hK => ?_) (AllReadyH.cons (i := 13) (o := { dst := some 12, op := Op.alloc 51, type := 0, pos := "exact.go:2898", after := #[], guard := none }) rfl (fun K hK => ?_) AllReadyH.nil)
    · go_simp
      refine (toDecl_c va fa ra vc fc rc vs fs rs _ ((unhide SVU).call (unhide hk).bel) ((unhide SFU).call (unhide hk).bel) ((unhide SRU).call (unhide hk).bel)).mono ?_
      rintro e wz1 ⟨b1, b2, b3, rfl, Q1, Q2, Q3, _, hb⟩
      have hk := hide ((unhide hk).call hb)
      clear hb
      have HQ1 := hide Q1
      clear Q1
      have HQ2 := hide Q2
      clear Q2
      have HQ3 := hide Q3
      clear Q3
      refine hK.out _ _ (unhide hk) (fun hHeld => ?_)
      clear hK K
      try simp only [Act.put, List.setIfInBounds_toArray, List.set_cons_zero, List.set_cons_succ]
      refine wpAnyH_ready (rs := [3, 13]) (by kernel_rfl) (by simp) ?_
      refine AllReadyH.cons (i := 3) (o := { dst := some 37, op := Op.call { callee := Callee.value (Operand.func 18), args := #[Operand.tmp 36], argTypes := #[44] }, type := 51, pos := "exact.go:2898", after := #[{ on := 2, ground := Ground.data }, { on := 1, ground := Ground.chain }], guard := none }) rfl (fun K hK => ?_) (AllReadyH.cons (i := 13) (o := { dst := some 12, op := Op.alloc 51, type := 0, pos := "exact.go:2898", after := #[], guard := none }) rfl (fun K hK => ?_) AllReadyH.nil)
      · go_simp
        refine (toEnv_c li xa ya xc yc xs ys _ ((unhide SXU).call (unhide hk).bel) ((unhide SYU).call (unhide hk).bel)).mono ?_
        rintro e wz2 ⟨d1, d2, rfl, Q4, Q5, _, hb⟩
        have hk := hide ((unhide hk).call hb)
        have HQ1 := hide ((unhide HQ1).call hb)
        have HQ2 := hide ((unhide HQ2).call hb)
        have HQ3 := hide ((unhide HQ3).call hb)
        clear hb
        have HQ4 := hide Q4
        clear Q4
        have HQ5 := hide Q5
        clear Q5
        refine hK.out _ _ (unhide hk) (fun hHeld => ?_)
        clear hK K
        try simp only [Act.put, List.setIfInBounds_toArray, List.set_cons_zero, List.set_cons_succ]
        refine wpAnyH_ready (rs := [6, 13]) (by kernel_rfl) (by simp) ?_
        refine AllReadyH.cons (i := 6) (o := { dst := some 40, op := Op.call { callee := Callee.value (Operand.func 23), args := #[Operand.tmp 39], argTypes := #[57] }, type := 60, pos := "exact.go:2898", after := #[{ on := 5, ground := Ground.data }, { on := 3, ground := Ground.chain }], guard := none }) rfl (fun K hK => ?_) (AllReadyH.cons (i := 13) (o := { dst := some 12, op := Op.alloc 51, type := 0, pos := "exact.go:2898", after := #[], guard := none }) rfl (fun K hK => ?_) AllReadyH.nil)
        · go_simp
          refine (toInterval_c _ _ _).mono ?_
          rintro e wz3 ⟨rfl, hb⟩
          have hk := hide ((unhide hk).call hb)
          have HQ1 := hide ((unhide HQ1).call hb)
          have HQ2 := hide ((unhide HQ2).call hb)
          have HQ3 := hide ((unhide HQ3).call hb)
          have HQ4 := hide ((unhide HQ4).call hb)
          have HQ5 := hide ((unhide HQ5).call hb)
          clear hb
          refine hK.out _ _ (unhide hk) (fun hHeld => ?_)
          clear hK K
          try simp only [Act.put, List.setIfInBounds_toArray, List.set_cons_zero, List.set_cons_succ]
          refine wpAnyH_ready (rs := [8, 13]) (by kernel_rfl) (by simp) ?_
          refine AllReadyH.cons (i := 8) (o := { dst := some 42, op := Op.call { callee := Callee.value (Operand.func 23), args := #[Operand.tmp 41], argTypes := #[57] }, type := 60, pos := "exact.go:2898", after := #[{ on := 7, ground := Ground.data }, { on := 6, ground := Ground.chain }], guard := none }) rfl (fun K hK => ?_) (AllReadyH.cons (i := 13) (o := { dst := some 12, op := Op.alloc 51, type := 0, pos := "exact.go:2898", after := #[], guard := none }) rfl (fun K hK => ?_) AllReadyH.nil)
          · go_simp
            refine (toInterval_c _ _ _).mono ?_
            rintro e wz4 ⟨rfl, hb⟩
            have hk := hide ((unhide hk).call hb)
            have HQ1 := hide ((unhide HQ1).call hb)
            have HQ2 := hide ((unhide HQ2).call hb)
            have HQ3 := hide ((unhide HQ3).call hb)
            have HQ4 := hide ((unhide HQ4).call hb)
            have HQ5 := hide ((unhide HQ5).call hb)
            clear hb
            refine hK.out _ _ (unhide hk) (fun hHeld => ?_)
            clear hK K
            try simp only [Act.put, List.setIfInBounds_toArray, List.set_cons_zero, List.set_cons_succ]
            refine wpAnyH_ready (rs := [9, 13]) (by kernel_rfl) (by simp) ?_
            refine AllReadyH.cons (i := 9) (o := { dst := some 43, op := Op.call { callee := Callee.value (Operand.func 22), args := #[Operand.tmp 35, Operand.tmp 37, Operand.tmp 38, Operand.tmp 40, Operand.tmp 42], argTypes := #[35, 51, 2, 60, 60] }, type := 58, pos := "exact.go:2898", after := #[{ on := 1, ground := Ground.data }, { on := 3, ground := Ground.data }, { on := 4, ground := Ground.data }, { on := 6, ground := Ground.data }, { on := 8, ground := Ground.data }, { on := 8, ground := Ground.chain }], guard := none }) rfl (fun K hK => ?_) (AllReadyH.cons (i := 13) (o := { dst := some 12, op := Op.alloc 51, type := 0, pos := "exact.go:2898", after := #[], guard := none }) rfl (fun K hK => ?_) AllReadyH.nil)
            · go_simp
              refine (sEnvPut_c b1 b2 b3 _ _ _ vs fs rs li d1 d2 _ _ xs ys v pl ph al ah _ (unhide HQ1).1 (unhide HQ2).1 (unhide HQ3).1 (unhide HZ) (unhide HQ4).1 (unhide HQ5).1).mono ?_
              rintro e wz5 ⟨oa, ca, ob, cb, rfl, RE, hb⟩
              rw [← unhide HOKE, ← unhide HXE, ← unhide HYE, ← unhide HAE]
              rw [← unhide HXE, ← unhide HYE] at RE
              have HR := RowsT.of RE
              have hlb : v1.heap.size ≤ wz4.heap.size := (unhide hk).bel.size
              generalize wz4.heap.size = Bz at HR hlb
              generalize wz5.heap.size = Tz at HR
              have HR := hide HR
              have HLB := hide hlb
              clear hlb RE
              have hk := hide ((unhide hk).call hb)
              have HQ1 := hide ((unhide HQ1).call hb)
              have HQ2 := hide ((unhide HQ2).call hb)
              have HQ3 := hide ((unhide HQ3).call hb)
              have HQ4 := hide ((unhide HQ4).call hb)
              have HQ5 := hide ((unhide HQ5).call hb)
              clear hb
              refine hK.out _ _ (unhide hk) (fun hHeld => ?_)
              clear hK K
              try simp only [Act.put, List.setIfInBounds_toArray, List.set_cons_zero, List.set_cons_succ]
              refine wpAnyH_take (i := 10) (oi := { dst := some 33, op := Op.move (Operand.tmp 43), type := 58, pos := "exact.go:2898", after := #[{ on := 9, ground := Ground.data }], guard := none }) (v := ?_) rfl (by kernel_rfl) (by kernel_rfl) (by kernel_rfl) (fun _ _ _ h => h) (Or.inl ⟨by rfl, ?_⟩) (by assumption) ?_
              rotate_left
              · (intro w hSw; (try dsimp only at hSw); go_simp; try with_reducible rfl)
              try simp only [Act.put, List.setIfInBounds_toArray, List.set_cons_zero, List.set_cons_succ]
              refine wpAnyH_take (i := 11) (oi := { dst := some 44, op := Op.extract (Operand.tmp 33) 0, type := 51, pos := "exact.go:2898", after := #[{ on := 10, ground := Ground.data }], guard := none }) (v := ?_) rfl (by kernel_rfl) (by kernel_rfl) (by kernel_rfl) (fun _ _ _ h => h) (Or.inl ⟨by rfl, ?_⟩) (by assumption) ?_
              rotate_left
              · (intro w hSw; (try dsimp only at hSw); go_simp; try with_reducible rfl)
              try simp only [Act.put, List.setIfInBounds_toArray, List.set_cons_zero, List.set_cons_succ]
              refine wpAnyH_take (i := 12) (oi := { dst := some 45, op := Op.extract (Operand.tmp 33) 1, type := 2, pos := "exact.go:2898", after := #[{ on := 10, ground := Ground.data }, { on := 14, ground := Ground.gcOnly Departure.lateStores }], guard := none }) (v := ?_) rfl (by kernel_rfl) (by kernel_rfl) (by kernel_rfl) (fun _ _ _ h => h) (Or.inl ⟨by rfl, ?_⟩) (by assumption) ?_
              rotate_left
              · (intro w hSw; (try dsimp only at hSw); go_simp; try with_reducible rfl)
              try simp only [Act.put, List.setIfInBounds_toArray, List.set_cons_zero, List.set_cons_succ]
              refine wpAnyH_ready (rs := [13]) (by kernel_rfl) (by simp) ?_
              refine AllReadyH.cons (i := 13) (o := { dst := some 12, op := Op.alloc 51, type := 0, pos := "exact.go:2898", after := #[], guard := none }) rfl (fun K hK => ?_) AllReadyH.nil
              have HA := C3.new wz5 (.bool false) (.slice none 0 0) (.slice none 0 0) 51
              have hlg : v1.heap.size ≤ wz5.heap.size := (unhide hk).bel.size
              have hn : Tz ≤ wz5.heap.size := (unhide HR).2.2.2
              have ka := (Below.refl _ wz5).alloc (Nat.le_refl _) (Obj.cells #[.bool false, .slice none 0 0, .slice none 0 0] 51)
              have hk := hide ((unhide hk).call ka)
              have HQ1 := hide ((unhide HQ1).call ka)
              have HQ2 := hide ((unhide HQ2).call ka)
              have HQ3 := hide ((unhide HQ3).call ka)
              have HQ4 := hide ((unhide HQ4).call ka)
              have HQ5 := hide ((unhide HQ5).call ka)
              have HR := hide ((unhide HR).call ka)
              clear ka
              go_simp
              refine hK.out _ _ (unhide hk) (fun hHeld => ?_)
              clear hK K
              try simp only [Act.put, List.setIfInBounds_toArray, List.set_cons_zero, List.set_cons_succ]
              clear hHeld
              generalize hg : wz5.alloc (Obj.cells #[.bool false, .slice none 0 0, .slice none 0 0] 51) = wz6 at HA hk HQ1 HQ2 HQ3 HQ4 HQ5 HR ⊢
              clear hg
              have hHeld := unhide hk
              generalize wz5.heap.size = bz at HA hlg hn ⊢
              have HA := hide HA
              have HLG := hide hlg
              have HN : Hid (bz < Bz ∨ Tz ≤ bz) := Or.inr hn
              clear hlg hn
              refine wpAnyH_ready (rs := [14]) (by kernel_rfl) (by simp) ?_
              refine AllReadyH.cons (i := 14) (o := { dst := none, op := Op.store 51 (Operand.tmp 12) (Operand.tmp 44), type := 0, pos := "exact.go:2898", after := #[{ on := 13, ground := Ground.data }, { on := 11, ground := Ground.data }, { on := 9, ground := Ground.chain }, { on := 0, ground := Ground.phase }, { on := 1, ground := Ground.phase }, { on := 2, ground := Ground.phase }, { on := 3, ground := Ground.phase }, { on := 4, ground := Ground.phase }, { on := 5, ground := Ground.phase }, { on := 6, ground := Ground.phase }, { on := 7, ground := Ground.phase }, { on := 8, ground := Ground.phase }, { on := 9, ground := Ground.phase }, { on := 10, ground := Ground.phase }, { on := 11, ground := Ground.phase }, { on := 12, ground := Ground.textOnly Departure.lateStores }, { on := 13, ground := Ground.phase }], guard := none }) rfl (fun K hK => ?_) AllReadyH.nil
              obtain ⟨c0, c1_, c2_, cf⟩ := unhide HA
              have f0 := cf 0
              have f1 := cf 1
              have f2 := cf 2
              clear cf
              go_simp
              refine hK.out _ _ ?_ (fun hHeld => ?_)
              · exact GA.of ((((unhide hk).ba.set (unhide HP).1 (unhide HP).2.1 (unhide HP).2.2.1 (unhide HP).2.2.2 (unhide HLG) _).set (unhide HP).1 (unhide HP).2.1 (unhide HP).2.2.1 (unhide HP).2.2.2 (unhide HLG) _).set (unhide HP).1 (unhide HP).2.1 (unhide HP).2.2.1 (unhide HP).2.2.2 (unhide HLG) _)
              clear hK K c0 c1_ c2_ f0 f1 f2
              try simp only [Act.put, List.setIfInBounds_toArray, List.set_cons_zero, List.set_cons_succ]
              refine wpAnyH_take (i := 15) (oi := { dst := some 13, op := Op.assign (Operand.tmp 45), type := 2, pos := "exact.go:2898", after := #[{ on := 12, ground := Ground.data }, { on := 14, ground := Ground.chain }, { on := 0, ground := Ground.phase }, { on := 1, ground := Ground.phase }, { on := 2, ground := Ground.phase }, { on := 3, ground := Ground.phase }, { on := 4, ground := Ground.phase }, { on := 5, ground := Ground.phase }, { on := 6, ground := Ground.phase }, { on := 7, ground := Ground.phase }, { on := 8, ground := Ground.phase }, { on := 9, ground := Ground.phase }, { on := 10, ground := Ground.phase }, { on := 11, ground := Ground.phase }, { on := 12, ground := Ground.phase }, { on := 13, ground := Ground.phase }, { on := 14, ground := Ground.phase }], guard := none }) (v := ?_) rfl (by kernel_rfl) (by kernel_rfl) (by kernel_rfl) (fun _ _ _ h => h) (Or.inl ⟨by rfl, ?_⟩) (by assumption) ?_
              rotate_left
              · (intro w hSw; (try dsimp only at hSw); go_simp; try with_reducible rfl)
              try simp only [Act.put, List.setIfInBounds_toArray, List.set_cons_zero, List.set_cons_succ]
              refine wpAnyH_done (by kernel_rfl) ?_ _
              clear hHeld
              go_wp2_with fail
              go_meet
              exact ⟨bz, Bz, Tz, oa, ca, ob, cb, rfl, rfl, Ans.stored (unhide HA) (unhide HR) (unhide HN), unhide HLB, unhide HLG, bel_set (bel_set (bel_set (unhide hk).bel (unhide HLG)) (unhide HLG)) (unhide HLG)⟩
            · have HA := C3.new wz4 (.bool false) (.slice none 0 0) (.slice none 0 0) 51
              have hlg : v1.heap.size ≤ wz4.heap.size := (unhide hk).bel.size
              have ka := (Below.refl _ wz4).alloc (Nat.le_refl _) (Obj.cells #[.bool false, .slice none 0 0, .slice none 0 0] 51)
              have hk := hide ((unhide hk).call ka)
              have HQ1 := hide ((unhide HQ1).call ka)
              have HQ2 := hide ((unhide HQ2).call ka)
              have HQ3 := hide ((unhide HQ3).call ka)
              have HQ4 := hide ((unhide HQ4).call ka)
              have HQ5 := hide ((unhide HQ5).call ka)
              clear ka
              go_simp
              refine hK.out _ _ (unhide hk) (fun hHeld => ?_)
              clear hK K
              try simp only [Act.put, List.setIfInBounds_toArray, List.set_cons_zero, List.set_cons_succ]
              clear hHeld
              generalize hg : wz4.alloc (Obj.cells #[.bool false, .slice none 0 0, .slice none 0 0] 51) = wz5 at HA hk HQ1 HQ2 HQ3 HQ4 HQ5 ⊢
              clear hg
              have hHeld := unhide hk
              generalize wz4.heap.size = bz at HA hlg ⊢
              have HA := hide HA
              have HLG := hide hlg
              clear hlg
              refine wpAnyH_ready (rs := [9]) (by kernel_rfl) (by simp) ?_
              refine AllReadyH.cons (i := 9) (o := { dst := some 43, op := Op.call { callee := Callee.value (Operand.func 22), args := #[Operand.tmp 35, Operand.tmp 37, Operand.tmp 38, Operand.tmp 40, Operand.tmp 42], argTypes := #[35, 51, 2, 60, 60] }, type := 58, pos := "exact.go:2898", after := #[{ on := 1, ground := Ground.data }, { on := 3, ground := Ground.data }, { on := 4, ground := Ground.data }, { on := 6, ground := Ground.data }, { on := 8, ground := Ground.data }, { on := 8, ground := Ground.chain }], guard := none }) rfl (fun K hK => ?_) AllReadyH.nil
              go_simp
              refine (sEnvPut_c b1 b2 b3 _ _ _ vs fs rs li d1 d2 _ _ xs ys v pl ph al ah _ (unhide HQ1).1 (unhide HQ2).1 (unhide HQ3).1 (unhide HZ) (unhide HQ4).1 (unhide HQ5).1).mono ?_
              rintro e wz6 ⟨oa, ca, ob, cb, rfl, RE, hb⟩
              rw [← unhide HOKE, ← unhide HXE, ← unhide HYE, ← unhide HAE]
              rw [← unhide HXE, ← unhide HYE] at RE
              have HR := RowsT.of RE
              have hlb : v1.heap.size ≤ wz5.heap.size := (unhide hk).bel.size
              have hn : bz < wz5.heap.size := (unhide HA).lt
              generalize wz5.heap.size = Bz at HR hlb hn
              generalize wz6.heap.size = Tz at HR
              have HR := hide HR
              have HLB := hide hlb
              have HN : Hid (bz < Bz ∨ Tz ≤ bz) := Or.inl hn
              clear hlb RE hn
              have hk := hide ((unhide hk).call hb)
              have HQ1 := hide ((unhide HQ1).call hb)
              have HQ2 := hide ((unhide HQ2).call hb)
              have HQ3 := hide ((unhide HQ3).call hb)
              have HQ4 := hide ((unhide HQ4).call hb)
              have HQ5 := hide ((unhide HQ5).call hb)
              have HA := hide ((unhide HA).call hb)
              clear hb
              refine hK.out _ _ (unhide hk) (fun hHeld => ?_)
              clear hK K
              try simp only [Act.put, List.setIfInBounds_toArray, List.set_cons_zero, List.set_cons_succ]
              refine wpAnyH_take (i := 10) (oi := { dst := some 33, op := Op.move (Operand.tmp 43), type := 58, pos := "exact.go:2898", after := #[{ on := 9, ground := Ground.data }], guard := none }) (v := ?_) rfl (by kernel_rfl) (by kernel_rfl) (by kernel_rfl) (fun _ _ _ h => h) (Or.inl ⟨by rfl, ?_⟩) (by assumption) ?_
              rotate_left
              · (intro w hSw; (try dsimp only at hSw); go_simp; try with_reducible rfl)
              try simp only [Act.put, List.setIfInBounds_toArray, List.set_cons_zero, List.set_cons_succ]
              refine wpAnyH_take (i := 11) (oi := { dst := some 44, op := Op.extract (Operand.tmp 33) 0, type := 51, pos := "exact.go:2898", after := #[{ on := 10, ground := Ground.data }], guard := none }) (v := ?_) rfl (by kernel_rfl) (by kernel_rfl) (by kernel_rfl) (fun _ _ _ h => h) (Or.inl ⟨by rfl, ?_⟩) (by assumption) ?_
              rotate_left
              · (intro w hSw; (try dsimp only at hSw); go_simp; try with_reducible rfl)
              try simp only [Act.put, List.setIfInBounds_toArray, List.set_cons_zero, List.set_cons_succ]
              refine wpAnyH_take (i := 12) (oi := { dst := some 45, op := Op.extract (Operand.tmp 33) 1, type := 2, pos := "exact.go:2898", after := #[{ on := 10, ground := Ground.data }, { on := 14, ground := Ground.gcOnly Departure.lateStores }], guard := none }) (v := ?_) rfl (by kernel_rfl) (by kernel_rfl) (by kernel_rfl) (fun _ _ _ h => h) (Or.inl ⟨by rfl, ?_⟩) (by assumption) ?_
              rotate_left
              · (intro w hSw; (try dsimp only at hSw); go_simp; try with_reducible rfl)
              try simp only [Act.put, List.setIfInBounds_toArray, List.set_cons_zero, List.set_cons_succ]
              refine wpAnyH_ready (rs := [14]) (by kernel_rfl) (by simp) ?_
              refine AllReadyH.cons (i := 14) (o := { dst := none, op := Op.store 51 (Operand.tmp 12) (Operand.tmp 44), type := 0, pos := "exact.go:2898", after := #[{ on := 13, ground := Ground.data }, { on := 11, ground := Ground.data }, { on := 9, ground := Ground.chain }, { on := 0, ground := Ground.phase }, { on := 1, ground := Ground.phase }, { on := 2, ground := Ground.phase }, { on := 3, ground := Ground.phase }, { on := 4, ground := Ground.phase }, { on := 5, ground := Ground.phase }, { on := 6, ground := Ground.phase }, { on := 7, ground := Ground.phase }, { on := 8, ground := Ground.phase }, { on := 9, ground := Ground.phase }, { on := 10, ground := Ground.phase }, { on := 11, ground := Ground.phase }, { on := 12, ground := Ground.textOnly Departure.lateStores }, { on := 13, ground := Ground.phase }], guard := none }) rfl (fun K hK => ?_) AllReadyH.nil
              obtain ⟨c0, c1_, c2_, cf⟩ := unhide HA
              have f0 := cf 0
              have f1 := cf 1
              have f2 := cf 2
              clear cf
              go_simp
              refine hK.out _ _ ?_ (fun hHeld => ?_)
              · exact GA.of ((((unhide hk).ba.set (unhide HP).1 (unhide HP).2.1 (unhide HP).2.2.1 (unhide HP).2.2.2 (unhide HLG) _).set (unhide HP).1 (unhide HP).2.1 (unhide HP).2.2.1 (unhide HP).2.2.2 (unhide HLG) _).set (unhide HP).1 (unhide HP).2.1 (unhide HP).2.2.1 (unhide HP).2.2.2 (unhide HLG) _)
              clear hK K c0 c1_ c2_ f0 f1 f2
              try simp only [Act.put, List.setIfInBounds_toArray, List.set_cons_zero, List.set_cons_succ]
              refine wpAnyH_take (i := 15) (oi := { dst := some 13, op := Op.assign (Operand.tmp 45), type := 2, pos := "exact.go:2898", after := #[{ on := 12, ground := Ground.data }, { on := 14, ground := Ground.chain }, { on := 0, ground := Ground.phase }, { on := 1, ground := Ground.phase }, { on := 2, ground := Ground.phase }, { on := 3, ground := Ground.phase }, { on := 4, ground := Ground.phase }, { on := 5, ground := Ground.phase }, { on := 6, ground := Ground.phase }, { on := 7, ground := Ground.phase }, { on := 8, ground := Ground.phase }, { on := 9, ground := Ground.phase }, { on := 10, ground := Ground.phase }, { on := 11, ground := Ground.phase }, { on := 12, ground := Ground.phase }, { on := 13, ground := Ground.phase }, { on := 14, ground := Ground.phase }], guard := none }) (v := ?_) rfl (by kernel_rfl) (by kernel_rfl) (by kernel_rfl) (fun _ _ _ h => h) (Or.inl ⟨by rfl, ?_⟩) (by assumption) ?_
              rotate_left
              · (intro w hSw; (try dsimp only at hSw); go_simp; try with_reducible rfl)
              try simp only [Act.put, List.setIfInBounds_toArray, List.set_cons_zero, List.set_cons_succ]
              refine wpAnyH_done (by kernel_rfl) ?_ _
              clear hHeld
              go_wp2_with fail
              go_meet
              exact ⟨bz, Bz, Tz, oa, ca, ob, cb, rfl, rfl, Ans.stored (unhide HA) (unhide HR) (unhide HN), unhide HLB, unhide HLG, bel_set (bel_set (bel_set (unhide hk).bel (unhide HLG)) (unhide HLG)) (unhide HLG)⟩
          · have HA := C3.new wz3 (.bool false) (.slice none 0 0) (.slice none 0 0) 51
            have hlg : v1.heap.size ≤ wz3.heap.size := (unhide hk).bel.size
            have ka := (Below.refl _ wz3).alloc (Nat.le_refl _) (Obj.cells #[.bool false, .slice none 0 0, .slice none 0 0] 51)
            have hk := hide ((unhide hk).call ka)
            have HQ1 := hide ((unhide HQ1).call ka)
            have HQ2 := hide ((unhide HQ2).call ka)
            have HQ3 := hide ((unhide HQ3).call ka)
            have HQ4 := hide ((unhide HQ4).call ka)
            have HQ5 := hide ((unhide HQ5).call ka)
            clear ka
            go_simp
            refine hK.out _ _ (unhide hk) (fun hHeld => ?_)
            clear hK K
            try simp only [Act.put, List.setIfInBounds_toArray, List.set_cons_zero, List.set_cons_succ]
            clear hHeld
            generalize hg : wz3.alloc (Obj.cells #[.bool false, .slice none 0 0, .slice none 0 0] 51) = wz4 at HA hk HQ1 HQ2 HQ3 HQ4 HQ5 ⊢
            clear hg
            have hHeld := unhide hk
            generalize wz3.heap.size = bz at HA hlg ⊢
            have HA := hide HA
            have HLG := hide hlg
            clear hlg
            refine wpAnyH_ready (rs := [8]) (by kernel_rfl) (by simp) ?_
            refine AllReadyH.cons (i := 8) (o := { dst := some 42, op := Op.call { callee := Callee.value (Operand.func 23), args := #[Operand.tmp 41], argTypes := #[57] }, type := 60, pos := "exact.go:2898", after := #[{ on := 7, ground := Ground.data }, { on := 6, ground := Ground.chain }], guard := none }) rfl (fun K hK => ?_) AllReadyH.nil
            go_simp
            refine (toInterval_c _ _ _).mono ?_
            rintro e wz5 ⟨rfl, hb⟩
            have hk := hide ((unhide hk).call hb)
            have HQ1 := hide ((unhide HQ1).call hb)
            have HQ2 := hide ((unhide HQ2).call hb)
            have HQ3 := hide ((unhide HQ3).call hb)
            have HQ4 := hide ((unhide HQ4).call hb)
            have HQ5 := hide ((unhide HQ5).call hb)
            have HA := hide ((unhide HA).call hb)
            clear hb
            refine hK.out _ _ (unhide hk) (fun hHeld => ?_)
            clear hK K
            try simp only [Act.put, List.setIfInBounds_toArray, List.set_cons_zero, List.set_cons_succ]
            refine wpAnyH_ready (rs := [9]) (by kernel_rfl) (by simp) ?_
            refine AllReadyH.cons (i := 9) (o := { dst := some 43, op := Op.call { callee := Callee.value (Operand.func 22), args := #[Operand.tmp 35, Operand.tmp 37, Operand.tmp 38, Operand.tmp 40, Operand.tmp 42], argTypes := #[35, 51, 2, 60, 60] }, type := 58, pos := "exact.go:2898", after := #[{ on := 1, ground := Ground.data }, { on := 3, ground := Ground.data }, { on := 4, ground := Ground.data }, { on := 6, ground := Ground.data }, { on := 8, ground := Ground.data }, { on := 8, ground := Ground.chain }], guard := none }) rfl (fun K hK => ?_) AllReadyH.nil
            go_simp
            refine (sEnvPut_c b1 b2 b3 _ _ _ vs fs rs li d1 d2 _ _ xs ys v pl ph al ah _ (unhide HQ1).1 (unhide HQ2).1 (unhide HQ3).1 (unhide HZ) (unhide HQ4).1 (unhide HQ5).1).mono ?_
            rintro e wz6 ⟨oa, ca, ob, cb, rfl, RE, hb⟩
            rw [← unhide HOKE, ← unhide HXE, ← unhide HYE, ← unhide HAE]
            rw [← unhide HXE, ← unhide HYE] at RE
            have HR := RowsT.of RE
            have hlb : v1.heap.size ≤ wz5.heap.size := (unhide hk).bel.size
            have hn : bz < wz5.heap.size := (unhide HA).lt
            generalize wz5.heap.size = Bz at HR hlb hn
            generalize wz6.heap.size = Tz at HR
            have HR := hide HR
            have HLB := hide hlb
            have HN : Hid (bz < Bz ∨ Tz ≤ bz) := Or.inl hn
            clear hlb RE hn
            have hk := hide ((unhide hk).call hb)
            have HQ1 := hide ((unhide HQ1).call hb)
            have HQ2 := hide ((unhide HQ2).call hb)
            have HQ3 := hide ((unhide HQ3).call hb)
            have HQ4 := hide ((unhide HQ4).call hb)
            have HQ5 := hide ((unhide HQ5).call hb)
            have HA := hide ((unhide HA).call hb)
            clear hb
            refine hK.out _ _ (unhide hk) (fun hHeld => ?_)
            clear hK K
            try simp only [Act.put, List.setIfInBounds_toArray, List.set_cons_zero, List.set_cons_succ]
            refine wpAnyH_take (i := 10) (oi := { dst := some 33, op := Op.move (Operand.tmp 43), type := 58, pos := "exact.go:2898", after := #[{ on := 9, ground := Ground.data }], guard := none }) (v := ?_) rfl (by kernel_rfl) (by kernel_rfl) (by kernel_rfl) (fun _ _ _ h => h) (Or.inl ⟨by rfl, ?_⟩) (by assumption) ?_
            rotate_left
            · (intro w hSw; (try dsimp only at hSw); go_simp; try with_reducible rfl)
            try simp only [Act.put, List.setIfInBounds_toArray, List.set_cons_zero, List.set_cons_succ]
            refine wpAnyH_take (i := 11) (oi := { dst := some 44, op := Op.extract (Operand.tmp 33) 0, type := 51, pos := "exact.go:2898", after := #[{ on := 10, ground := Ground.data }], guard := none }) (v := ?_) rfl (by kernel_rfl) (by kernel_rfl) (by kernel_rfl) (fun _ _ _ h => h) (Or.inl ⟨by rfl, ?_⟩) (by assumption) ?_
            rotate_left
            · (intro w hSw; (try dsimp only at hSw); go_simp; try with_reducible rfl)
            try simp only [Act.put, List.setIfInBounds_toArray, List.set_cons_zero, List.set_cons_succ]
            refine wpAnyH_take (i := 12) (oi := { dst := some 45, op := Op.extract (Operand.tmp 33) 1, type := 2, pos := "exact.go:2898", after := #[{ on := 10, ground := Ground.data }, { on := 14, ground := Ground.gcOnly Departure.lateStores }], guard := none }) (v := ?_) rfl (by kernel_rfl) (by kernel_rfl) (by kernel_rfl) (fun _ _ _ h => h) (Or.inl ⟨by rfl, ?_⟩) (by assumption) ?_
            rotate_left
            · (intro w hSw; (try dsimp only at hSw); go_simp; try with_reducible rfl)
            try simp only [Act.put, List.setIfInBounds_toArray, List.set_cons_zero, List.set_cons_succ]
            refine wpAnyH_ready (rs := [14]) (by kernel_rfl) (by simp) ?_
            refine AllReadyH.cons (i := 14) (o := { dst := none, op := Op.store 51 (Operand.tmp 12) (Operand.tmp 44), type := 0, pos := "exact.go:2898", after := #[{ on := 13, ground := Ground.data }, { on := 11, ground := Ground.data }, { on := 9, ground := Ground.chain }, { on := 0, ground := Ground.phase }, { on := 1, ground := Ground.phase }, { on := 2, ground := Ground.phase }, { on := 3, ground := Ground.phase }, { on := 4, ground := Ground.phase }, { on := 5, ground := Ground.phase }, { on := 6, ground := Ground.phase }, { on := 7, ground := Ground.phase }, { on := 8, ground := Ground.phase }, { on := 9, ground := Ground.phase }, { on := 10, ground := Ground.phase }, { on := 11, ground := Ground.phase }, { on := 12, ground := Ground.textOnly Departure.lateStores }, { on := 13, ground := Ground.phase }], guard := none }) rfl (fun K hK => ?_) AllReadyH.nil
            obtain ⟨c0, c1_, c2_, cf⟩ := unhide HA
            have f0 := cf 0
            have f1 := cf 1
            have f2 := cf 2
            clear cf
            go_simp
            refine hK.out _ _ ?_ (fun hHeld => ?_)
            · exact GA.of ((((unhide hk).ba.set (unhide HP).1 (unhide HP).2.1 (unhide HP).2.2.1 (unhide HP).2.2.2 (unhide HLG) _).set (unhide HP).1 (unhide HP).2.1 (unhide HP).2.2.1 (unhide HP).2.2.2 (unhide HLG) _).set (unhide HP).1 (unhide HP).2.1 (unhide HP).2.2.1 (unhide HP).2.2.2 (unhide HLG) _)
            clear hK K c0 c1_ c2_ f0 f1 f2
            try simp only [Act.put, List.setIfInBounds_toArray, List.set_cons_zero, List.set_cons_succ]
            refine wpAnyH_take (i := 15) (oi := { dst := some 13, op := Op.assign (Operand.tmp 45), type := 2, pos := "exact.go:2898", after := #[{ on := 12, ground := Ground.data }, { on := 14, ground := Ground.chain }, { on := 0, ground := Ground.phase }, { on := 1, ground := Ground.phase }, { on := 2, ground := Ground.phase }, { on := 3, ground := Ground.phase }, { on := 4, ground := Ground.phase }, { on := 5, ground := Ground.phase }, { on := 6, ground := Ground.phase }, { on := 7, ground := Ground.phase }, { on := 8, ground := Ground.phase }, { on := 9, ground := Ground.phase }, { on := 10, ground := Ground.phase }, { on := 11, ground := Ground.phase }, { on := 12, ground := Ground.phase }, { on := 13, ground := Ground.phase }, { on := 14, ground := Ground.phase }], guard := none }) (v := ?_) rfl (by kernel_rfl) (by kernel_rfl) (by kernel_rfl) (fun _ _ _ h => h) (Or.inl ⟨by rfl, ?_⟩) (by assumption) ?_
            rotate_left
            · (intro w hSw; (try dsimp only at hSw); go_simp; try with_reducible rfl)
            try simp only [Act.put, List.setIfInBounds_toArray, List.set_cons_zero, List.set_cons_succ]
            refine wpAnyH_done (by kernel_rfl) ?_ _
            clear hHeld
            go_wp2_with fail
            go_meet
            exact ⟨bz, Bz, Tz, oa, ca, ob, cb, rfl, rfl, Ans.stored (unhide HA) (unhide HR) (unhide HN), unhide HLB, unhide HLG, bel_set (bel_set (bel_set (unhide hk).bel (unhide HLG)) (unhide HLG)) (unhide HLG)⟩
        · have HA := C3.new wz2 (.bool false) (.slice none 0 0) (.slice none 0 0) 51
          have hlg : v1.heap.size ≤ wz2.heap.size := (unhide hk).bel.size
          have ka := (Below.refl _ wz2).alloc (Nat.le_refl _) (Obj.cells #[.bool false, .slice none 0 0, .slice none 0 0] 51)
          have hk := hide ((unhide hk).call ka)
          have HQ1 := hide ((unhide HQ1).call ka)
          have HQ2 := hide ((unhide HQ2).call ka)
          have HQ3 := hide ((unhide HQ3).call ka)
          have HQ4 := hide ((unhide HQ4).call ka)
          have HQ5 := hide ((unhide HQ5).call ka)
          clear ka
          go_simp
          refine hK.out _ _ (unhide hk) (fun hHeld => ?_)
          clear hK K
          try simp only [Act.put, List.setIfInBounds_toArray, List.set_cons_zero, List.set_cons_succ]
          clear hHeld
          generalize hg : wz2.alloc (Obj.cells #[.bool false, .slice none 0 0, .slice none 0 0] 51) = wz3 at HA hk HQ1 HQ2 HQ3 HQ4 HQ5 ⊢
          clear hg
          have hHeld := unhide hk
          generalize wz2.heap.size = bz at HA hlg ⊢
          have HA := hide HA
          have HLG := hide hlg
          clear hlg
          refine wpAnyH_ready (rs := [6]) (by kernel_rfl) (by simp) ?_
          refine AllReadyH.cons (i := 6) (o := { dst := some 40, op := Op.call { callee := Callee.value (Operand.func 23), args := #[Operand.tmp 39], argTypes := #[57] }, type := 60, pos := "exact.go:2898", after := #[{ on := 5, ground := Ground.data }, { on := 3, ground := Ground.chain }], guard := none }) rfl (fun K hK => ?_) AllReadyH.nil
          go_simp
          refine (toInterval_c _ _ _).mono ?_
          rintro e wz4 ⟨rfl, hb⟩
          have hk := hide ((unhide hk).call hb)
          have HQ1 := hide ((unhide HQ1).call hb)
          have HQ2 := hide ((unhide HQ2).call hb)
          have HQ3 := hide ((unhide HQ3).call hb)
          have HQ4 := hide ((unhide HQ4).call hb)
          have HQ5 := hide ((unhide HQ5).call hb)
          have HA := hide ((unhide HA).call hb)
          clear hb
          refine hK.out _ _ (unhide hk) (fun hHeld => ?_)
          clear hK K
          try simp only [Act.put, List.setIfInBounds_toArray, List.set_cons_zero, List.set_cons_succ]
          refine wpAnyH_ready (rs := [8]) (by kernel_rfl) (by simp) ?_
          refine AllReadyH.cons (i := 8) (o := { dst := some 42, op := Op.call { callee := Callee.value (Operand.func 23), args := #[Operand.tmp 41], argTypes := #[57] }, type := 60, pos := "exact.go:2898", after := #[{ on := 7, ground := Ground.data }, { on := 6, ground := Ground.chain }], guard := none }) rfl (fun K hK => ?_) AllReadyH.nil
          go_simp
          refine (toInterval_c _ _ _).mono ?_
          rintro e wz5 ⟨rfl, hb⟩
          have hk := hide ((unhide hk).call hb)
          have HQ1 := hide ((unhide HQ1).call hb)
          have HQ2 := hide ((unhide HQ2).call hb)
          have HQ3 := hide ((unhide HQ3).call hb)
          have HQ4 := hide ((unhide HQ4).call hb)
          have HQ5 := hide ((unhide HQ5).call hb)
          have HA := hide ((unhide HA).call hb)
          clear hb
          refine hK.out _ _ (unhide hk) (fun hHeld => ?_)
          clear hK K
          try simp only [Act.put, List.setIfInBounds_toArray, List.set_cons_zero, List.set_cons_succ]
          refine wpAnyH_ready (rs := [9]) (by kernel_rfl) (by simp) ?_
          refine AllReadyH.cons (i := 9) (o := { dst := some 43, op := Op.call { callee := Callee.value (Operand.func 22), args := #[Operand.tmp 35, Operand.tmp 37, Operand.tmp 38, Operand.tmp 40, Operand.tmp 42], argTypes := #[35, 51, 2, 60, 60] }, type := 58, pos := "exact.go:2898", after := #[{ on := 1, ground := Ground.data }, { on := 3, ground := Ground.data }, { on := 4, ground := Ground.data }, { on := 6, ground := Ground.data }, { on := 8, ground := Ground.data }, { on := 8, ground := Ground.chain }], guard := none }) rfl (fun K hK => ?_) AllReadyH.nil
          go_simp
          refine (sEnvPut_c b1 b2 b3 _ _ _ vs fs rs li d1 d2 _ _ xs ys v pl ph al ah _ (unhide HQ1).1 (unhide HQ2).1 (unhide HQ3).1 (unhide HZ) (unhide HQ4).1 (unhide HQ5).1).mono ?_
          rintro e wz6 ⟨oa, ca, ob, cb, rfl, RE, hb⟩
          rw [← unhide HOKE, ← unhide HXE, ← unhide HYE, ← unhide HAE]
          rw [← unhide HXE, ← unhide HYE] at RE
          have HR := RowsT.of RE
          have hlb : v1.heap.size ≤ wz5.heap.size := (unhide hk).bel.size
          have hn : bz < wz5.heap.size := (unhide HA).lt
          generalize wz5.heap.size = Bz at HR hlb hn
          generalize wz6.heap.size = Tz at HR
          have HR := hide HR
          have HLB := hide hlb
          have HN : Hid (bz < Bz ∨ Tz ≤ bz) := Or.inl hn
          clear hlb RE hn
          have hk := hide ((unhide hk).call hb)
          have HQ1 := hide ((unhide HQ1).call hb)
          have HQ2 := hide ((unhide HQ2).call hb)
          have HQ3 := hide ((unhide HQ3).call hb)
          have HQ4 := hide ((unhide HQ4).call hb)
          have HQ5 := hide ((unhide HQ5).call hb)
          have HA := hide ((unhide HA).call hb)
          clear hb
          refine hK.out _ _ (unhide hk) (fun hHeld => ?_)
          clear hK K
          try simp only [Act.put, List.setIfInBounds_toArray, List.set_cons_zero, List.set_cons_succ]
          refine wpAnyH_take (i := 10) (oi := { dst := some 33, op := Op.move (Operand.tmp 43), type := 58, pos := "exact.go:2898", after := #[{ on := 9, ground := Ground.data }], guard := none }) (v := ?_) rfl (by kernel_rfl) (by kernel_rfl) (by kernel_rfl) (fun _ _ _ h => h) (Or.inl ⟨by rfl, ?_⟩) (by assumption) ?_
          rotate_left
          · (intro w hSw; (try dsimp only at hSw); go_simp; try with_reducible rfl)
          try simp only [Act.put, List.setIfInBounds_toArray, List.set_cons_zero, List.set_cons_succ]
          refine wpAnyH_take (i := 11) (oi := { dst := some 44, op := Op.extract (Operand.tmp 33) 0, type := 51, pos := "exact.go:2898", after := #[{ on := 10, ground := Ground.data }], guard := none }) (v := ?_) rfl (by kernel_rfl) (by kernel_rfl) (by kernel_rfl) (fun _ _ _ h => h) (Or.inl ⟨by rfl, ?_⟩) (by assumption) ?_
          rotate_left
          · (intro w hSw; (try dsimp only at hSw); go_simp; try with_reducible rfl)
          try simp only [Act.put, List.setIfInBounds_toArray, List.set_cons_zero, List.set_cons_succ]
          refine wpAnyH_take (i := 12) (oi := { dst := some 45, op := Op.extract (Operand.tmp 33) 1, type := 2, pos := "exact.go:2898", after := #[{ on := 10, ground := Ground.data }, { on := 14, ground := Ground.gcOnly Departure.lateStores }], guard := none }) (v := ?_) rfl (by kernel_rfl) (by kernel_rfl) (by kernel_rfl) (fun _ _ _ h => h) (Or.inl ⟨by rfl, ?_⟩) (by assumption) ?_
          rotate_left
          · (intro w hSw; (try dsimp only at hSw); go_simp; try with_reducible rfl)
          try simp only [Act.put, List.setIfInBounds_toArray, List.set_cons_zero, List.set_cons_succ]
          refine wpAnyH_ready (rs := [14]) (by kernel_rfl) (by simp) ?_
          refine AllReadyH.cons (i := 14) (o := { dst := none, op := Op.store 51 (Operand.tmp 12) (Operand.tmp 44), type := 0, pos := "exact.go:2898", after := #[{ on := 13, ground := Ground.data }, { on := 11, ground := Ground.data }, { on := 9, ground := Ground.chain }, { on := 0, ground := Ground.phase }, { on := 1, ground := Ground.phase }, { on := 2, ground := Ground.phase }, { on := 3, ground := Ground.phase }, { on := 4, ground := Ground.phase }, { on := 5, ground := Ground.phase }, { on := 6, ground := Ground.phase }, { on := 7, ground := Ground.phase }, { on := 8, ground := Ground.phase }, { on := 9, ground := Ground.phase }, { on := 10, ground := Ground.phase }, { on := 11, ground := Ground.phase }, { on := 12, ground := Ground.textOnly Departure.lateStores }, { on := 13, ground := Ground.phase }], guard := none }) rfl (fun K hK => ?_) AllReadyH.nil
          obtain ⟨c0, c1_, c2_, cf⟩ := unhide HA
          have f0 := cf 0
          have f1 := cf 1
          have f2 := cf 2
          clear cf
          go_simp
          refine hK.out _ _ ?_ (fun hHeld => ?_)
          · exact GA.of ((((unhide hk).ba.set (unhide HP).1 (unhide HP).2.1 (unhide HP).2.2.1 (unhide HP).2.2.2 (unhide HLG) _).set (unhide HP).1 (unhide HP).2.1 (unhide HP).2.2.1 (unhide HP).2.2.2 (unhide HLG) _).set (unhide HP).1 (unhide HP).2.1 (unhide HP).2.2.1 (unhide HP).2.2.2 (unhide HLG) _)
          clear hK K c0 c1_ c2_ f0 f1 f2
          try simp only [Act.put, List.setIfInBounds_toArray, List.set_cons_zero, List.set_cons_succ]
          refine wpAnyH_take (i := 15) (oi := { dst := some 13, op := Op.assign (Operand.tmp 45), type := 2, pos := "exact.go:2898", after := #[{ on := 12, ground := Ground.data }, { on := 14, ground := Ground.chain }, { on := 0, ground := Ground.phase }, { on := 1, ground := Ground.phase }, { on := 2, ground := Ground.phase }, { on := 3, ground := Ground.phase }, { on := 4, ground := Ground.phase }, { on := 5, ground := Ground.phase }, { on := 6, ground := Ground.phase }, { on := 7, ground := Ground.phase }, { on := 8, ground := Ground.phase }, { on := 9, ground := Ground.phase }, { on := 10, ground := Ground.phase }, { on := 11, ground := Ground.phase }, { on := 12, ground := Ground.phase }, { on := 13, ground := Ground.phase }, { on := 14, ground := Ground.phase }], guard := none }) (v := ?_) rfl (by kernel_rfl) (by kernel_rfl) (by kernel_rfl) (fun _ _ _ h => h) (Or.inl ⟨by rfl, ?_⟩) (by assumption) ?_
          rotate_left
          · (intro w hSw; (try dsimp only at hSw); go_simp; try with_reducible rfl)
          try simp only [Act.put, List.setIfInBounds_toArray, List.set_cons_zero, List.set_cons_succ]
          refine wpAnyH_done (by kernel_rfl) ?_ _
          clear hHeld
          go_wp2_with fail
          go_meet
          exact ⟨bz, Bz, Tz, oa, ca, ob, cb, rfl, rfl, Ans.stored (unhide HA) (unhide HR) (unhide HN), unhide HLB, unhide HLG, bel_set (bel_set (bel_set (unhide hk).bel (unhide HLG)) (unhide HLG)) (unhide HLG)⟩
      · have HA := C3.new wz1 (.bool false) (.slice none 0 0) (.slice none 0 0) 51
        have hlg : v1.heap.size ≤ wz1.heap.size := (unhide hk).bel.size
        have ka := (Below.refl _ wz1).alloc (Nat.le_refl _) (Obj.cells #[.bool false, .slice none 0 0, .slice none 0 0] 51)
        have hk := hide ((unhide hk).call ka)
        have HQ1 := hide ((unhide HQ1).call ka)
        have HQ2 := hide ((unhide HQ2).call ka)
        have HQ3 := hide ((unhide HQ3).call ka)
        clear ka
        go_simp
        refine hK.out _ _ (unhide hk) (fun hHeld => ?_)
        clear hK K
        try simp only [Act.put, List.setIfInBounds_toArray, List.set_cons_zero, List.set_cons_succ]
        clear hHeld
        generalize hg : wz1.alloc (Obj.cells #[.bool false, .slice none 0 0, .slice none 0 0] 51) = wz2 at HA hk HQ1 HQ2 HQ3 ⊢
        clear hg
        have hHeld := unhide hk
        generalize wz1.heap.size = bz at HA hlg ⊢
        have HA := hide HA
        have HLG := hide hlg
        clear hlg
        refine wpAnyH_ready (rs := [3]) (by kernel_rfl) (by simp) ?_
        refine AllReadyH.cons (i := 3) (o := { dst := some 37, op := Op.call { callee := Callee.value (Operand.func 18), args := #[Operand.tmp 36], argTypes := #[44] }, type := 51, pos := "exact.go:2898", after := #[{ on := 2, ground := Ground.data }, { on := 1, ground := Ground.chain }], guard := none }) rfl (fun K hK => ?_) AllReadyH.nil
        go_simp
        refine (toEnv_c li xa ya xc yc xs ys _ ((unhide SXU).call (unhide hk).bel) ((unhide SYU).call (unhide hk).bel)).mono ?_
        rintro e wz3 ⟨d1, d2, rfl, Q4, Q5, _, hb⟩
        have hk := hide ((unhide hk).call hb)
        have HQ1 := hide ((unhide HQ1).call hb)
        have HQ2 := hide ((unhide HQ2).call hb)
        have HQ3 := hide ((unhide HQ3).call hb)
        have HA := hide ((unhide HA).call hb)
        clear hb
        have HQ4 := hide Q4
        clear Q4
        have HQ5 := hide Q5
        clear Q5
        refine hK.out _ _ (unhide hk) (fun hHeld => ?_)
        clear hK K
        try simp only [Act.put, List.setIfInBounds_toArray, List.set_cons_zero, List.set_cons_succ]
        refine wpAnyH_ready (rs := [6]) (by kernel_rfl) (by simp) ?_
        refine AllReadyH.cons (i := 6) (o := { dst := some 40, op := Op.call { callee := Callee.value (Operand.func 23), args := #[Operand.tmp 39], argTypes := #[57] }, type := 60, pos := "exact.go:2898", after := #[{ on := 5, ground := Ground.data }, { on := 3, ground := Ground.chain }], guard := none }) rfl (fun K hK => ?_) AllReadyH.nil
        go_simp
        refine (toInterval_c _ _ _).mono ?_
        rintro e wz4 ⟨rfl, hb⟩
        have hk := hide ((unhide hk).call hb)
        have HQ1 := hide ((unhide HQ1).call hb)
        have HQ2 := hide ((unhide HQ2).call hb)
        have HQ3 := hide ((unhide HQ3).call hb)
        have HQ4 := hide ((unhide HQ4).call hb)
        have HQ5 := hide ((unhide HQ5).call hb)
        have HA := hide ((unhide HA).call hb)
        clear hb
        refine hK.out _ _ (unhide hk) (fun hHeld => ?_)
        clear hK K
        try simp only [Act.put, List.setIfInBounds_toArray, List.set_cons_zero, List.set_cons_succ]
        refine wpAnyH_ready (rs := [8]) (by kernel_rfl) (by simp) ?_
        refine AllReadyH.cons (i := 8) (o := { dst := some 42, op := Op.call { callee := Callee.value (Operand.func 23), args := #[Operand.tmp 41], argTypes := #[57] }, type := 60, pos := "exact.go:2898", after := #[{ on := 7, ground := Ground.data }, { on := 6, ground := Ground.chain }], guard := none }) rfl (fun K hK => ?_) AllReadyH.nil
        go_simp
        refine (toInterval_c _ _ _).mono ?_
        rintro e wz5 ⟨rfl, hb⟩
        have hk := hide ((unhide hk).call hb)
        have HQ1 := hide ((unhide HQ1).call hb)
        have HQ2 := hide ((unhide HQ2).call hb)
        have HQ3 := hide ((unhide HQ3).call hb)
        have HQ4 := hide ((unhide HQ4).call hb)
        have HQ5 := hide ((unhide HQ5).call hb)
        have HA := hide ((unhide HA).call hb)
        clear hb
        refine hK.out _ _ (unhide hk) (fun hHeld => ?_)
        clear hK K
        try simp only [Act.put, List.setIfInBounds_toArray, List.set_cons_zero, List.set_cons_succ]
        refine wpAnyH_ready (rs := [9]) (by kernel_rfl) (by simp) ?_
        refine AllReadyH.cons (i := 9) (o := { dst := some 43, op := Op.call { callee := Callee.value (Operand.func 22), args := #[Operand.tmp 35, Operand.tmp 37, Operand.tmp 38, Operand.tmp 40, Operand.tmp 42], argTypes := #[35, 51, 2, 60, 60] }, type := 58, pos := "exact.go:2898", after := #[{ on := 1, ground := Ground.data }, { on := 3, ground := Ground.data }, { on := 4, ground := Ground.data }, { on := 6, ground := Ground.data }, { on := 8, ground := Ground.data }, { on := 8, ground := Ground.chain }], guard := none }) rfl (fun K hK => ?_) AllReadyH.nil
        go_simp
        refine (sEnvPut_c b1 b2 b3 _ _ _ vs fs rs li d1 d2 _ _ xs ys v pl ph al ah _ (unhide HQ1).1 (unhide HQ2).1 (unhide HQ3).1 (unhide HZ) (unhide HQ4).1 (unhide HQ5).1).mono ?_
        rintro e wz6 ⟨oa, ca, ob, cb, rfl, RE, hb⟩
        rw [← unhide HOKE, ← unhide HXE, ← unhide HYE, ← unhide HAE]
        rw [← unhide HXE, ← unhide HYE] at RE
        have HR := RowsT.of RE
        have hlb : v1.heap.size ≤ wz5.heap.size := (unhide hk).bel.size
        have hn : bz < wz5.heap.size := (unhide HA).lt
        generalize wz5.heap.size = Bz at HR hlb hn
        generalize wz6.heap.size = Tz at HR
        have HR := hide HR
        have HLB := hide hlb
        have HN : Hid (bz < Bz ∨ Tz ≤ bz) := Or.inl hn
        clear hlb RE hn
        have hk := hide ((unhide hk).call hb)
        have HQ1 := hide ((unhide HQ1).call hb)
        have HQ2 := hide ((unhide HQ2).call hb)
        have HQ3 := hide ((unhide HQ3).call hb)
        have HQ4 := hide ((unhide HQ4).call hb)
        have HQ5 := hide ((unhide HQ5).call hb)
        have HA := hide ((unhide HA).call hb)
        clear hb
        refine hK.out _ _ (unhide hk) (fun hHeld => ?_)
        clear hK K
        try simp only [Act.put, List.setIfInBounds_toArray, List.set_cons_zero, List.set_cons_succ]
        refine wpAnyH_take (i := 10) (oi := { dst := some 33, op := Op.move (Operand.tmp 43), type := 58, pos := "exact.go:2898", after := #[{ on := 9, ground := Ground.data }], guard := none }) (v := ?_) rfl (by kernel_rfl) (by kernel_rfl) (by kernel_rfl) (fun _ _ _ h => h) (Or.inl ⟨by rfl, ?_⟩) (by assumption) ?_
        rotate_left
        · (intro w hSw; (try dsimp only at hSw); go_simp; try with_reducible rfl)
        try simp only [Act.put, List.setIfInBounds_toArray, List.set_cons_zero, List.set_cons_succ]
        refine wpAnyH_take (i := 11) (oi := { dst := some 44, op := Op.extract (Operand.tmp 33) 0, type := 51, pos := "exact.go:2898", after := #[{ on := 10, ground := Ground.data }], guard := none }) (v := ?_) rfl (by kernel_rfl) (by kernel_rfl) (by kernel_rfl) (fun _ _ _ h => h) (Or.inl ⟨by rfl, ?_⟩) (by assumption) ?_
        rotate_left
        · (intro w hSw; (try dsimp only at hSw); go_simp; try with_reducible rfl)
        try simp only [Act.put, List.setIfInBounds_toArray, List.set_cons_zero, List.set_cons_succ]
        refine wpAnyH_take (i := 12) (oi := { dst := some 45, op := Op.extract (Operand.tmp 33) 1, type := 2, pos := "exact.go:2898", after := #[{ on := 10, ground := Ground.data }, { on := 14, ground := Ground.gcOnly Departure.lateStores }], guard := none }) (v := ?_) rfl (by kernel_rfl) (by kernel_rfl) (by kernel_rfl) (fun _ _ _ h => h) (Or.inl ⟨by rfl, ?_⟩) (by assumption) ?_
        rotate_left
        · (intro w hSw; (try dsimp only at hSw); go_simp; try with_reducible rfl)
        try simp only [Act.put, List.setIfInBounds_toArray, List.set_cons_zero, List.set_cons_succ]
        refine wpAnyH_ready (rs := [14]) (by kernel_rfl) (by simp) ?_
        refine AllReadyH.cons (i := 14) (o := { dst := none, op := Op.store 51 (Operand.tmp 12) (Operand.tmp 44), type := 0, pos := "exact.go:2898", after := #[{ on := 13, ground := Ground.data }, { on := 11, ground := Ground.data }, { on := 9, ground := Ground.chain }, { on := 0, ground := Ground.phase }, { on := 1, ground := Ground.phase }, { on := 2, ground := Ground.phase }, { on := 3, ground := Ground.phase }, { on := 4, ground := Ground.phase }, { on := 5, ground := Ground.phase }, { on := 6, ground := Ground.phase }, { on := 7, ground := Ground.phase }, { on := 8, ground := Ground.phase }, { on := 9, ground := Ground.phase }, { on := 10, ground := Ground.phase }, { on := 11, ground := Ground.phase }, { on := 12, ground := Ground.textOnly Departure.lateStores }, { on := 13, ground := Ground.phase }], guard := none }) rfl (fun K hK => ?_) AllReadyH.nil
        obtain ⟨c0, c1_, c2_, cf⟩ := unhide HA
        have f0 := cf 0
        have f1 := cf 1
        have f2 := cf 2
        clear cf
        go_simp
        refine hK.out _ _ ?_ (fun hHeld => ?_)
        · exact GA.of ((((unhide hk).ba.set (unhide HP).1 (unhide HP).2.1 (unhide HP).2.2.1 (unhide HP).2.2.2 (unhide HLG) _).set (unhide HP).1 (unhide HP).2.1 (unhide HP).2.2.1 (unhide HP).2.2.2 (unhide HLG) _).set (unhide HP).1 (unhide HP).2.1 (unhide HP).2.2.1 (unhide HP).2.2.2 (unhide HLG) _)
        clear hK K c0 c1_ c2_ f0 f1 f2
        try simp only [Act.put, List.setIfInBounds_toArray, List.set_cons_zero, List.set_cons_succ]
        refine wpAnyH_take (i := 15) (oi := { dst := some 13, op := Op.assign (Operand.tmp 45), type := 2, pos := "exact.go:2898", after := #[{ on := 12, ground := Ground.data }, { on := 14, ground := Ground.chain }, { on := 0, ground := Ground.phase }, { on := 1, ground := Ground.phase }, { on := 2, ground := Ground.phase }, { on := 3, ground := Ground.phase }, { on := 4, ground := Ground.phase }, { on := 5, ground := Ground.phase }, { on := 6, ground := Ground.phase }, { on := 7, ground := Ground.phase }, { on := 8, ground := Ground.phase }, { on := 9, ground := Ground.phase }, { on := 10, ground := Ground.phase }, { on := 11, ground := Ground.phase }, { on := 12, ground := Ground.phase }, { on := 13, ground := Ground.phase }, { on := 14, ground := Ground.phase }], guard := none }) (v := ?_) rfl (by kernel_rfl) (by kernel_rfl) (by kernel_rfl) (fun _ _ _ h => h) (Or.inl ⟨by rfl, ?_⟩) (by assumption) ?_
        rotate_left
        · (intro w hSw; (try dsimp only at hSw); go_simp; try with_reducible rfl)
        try simp only [Act.put, List.setIfInBounds_toArray, List.set_cons_zero, List.set_cons_succ]
        refine wpAnyH_done (by kernel_rfl) ?_ _
        clear hHeld
        go_wp2_with fail
        go_meet
        exact ⟨bz, Bz, Tz, oa, ca, ob, cb, rfl, rfl, Ans.stored (unhide HA) (unhide HR) (unhide HN), unhide HLB, unhide HLG, bel_set (bel_set (bel_set (unhide hk).bel (unhide HLG)) (unhide HLG)) (unhide HLG)⟩
    · have HA := C3.new wz0 (.bool false) (.slice none 0 0) (.slice none 0 0) 51
      have hlg : v1.heap.size ≤ wz0.heap.size := (unhide hk).bel.size
      have ka := (Below.refl _ wz0).alloc (Nat.le_refl _) (Obj.cells #[.bool false, .slice none 0 0, .slice none 0 0] 51)
      have hk := hide ((unhide hk).call ka)
      clear ka
      go_simp
      refine hK.out _ _ (unhide hk) (fun hHeld => ?_)
      clear hK K
      try simp only [Act.put, List.setIfInBounds_toArray, List.set_cons_zero, List.set_cons_succ]
      clear hHeld
      generalize hg : wz0.alloc (Obj.cells #[.bool false, .slice none 0 0, .slice none 0 0] 51) = wz1 at HA hk  ⊢
      clear hg
      have hHeld := unhide hk
      generalize wz0.heap.size = bz at HA hlg ⊢
      have HA := hide HA
      have HLG := hide hlg
      clear hlg
      refine wpAnyH_ready (rs := [1]) (by kernel_rfl) (by simp) ?_
      refine AllReadyH.cons (i := 1) (o := { dst := some 35, op := Op.call { callee := Callee.value (Operand.func 8), args := #[Operand.tmp 34], argTypes := #[25] }, type := 35, pos := "exact.go:2898", after := #[{ on := 0, ground := Ground.data }], guard := none }) rfl (fun K hK => ?_) AllReadyH.nil
      go_simp
      refine (toDecl_c va fa ra vc fc rc vs fs rs _ ((unhide SVU).call (unhide hk).bel) ((unhide SFU).call (unhide hk).bel) ((unhide SRU).call (unhide hk).bel)).mono ?_
      rintro e wz2 ⟨b1, b2, b3, rfl, Q1, Q2, Q3, _, hb⟩
      have hk := hide ((unhide hk).call hb)
      have HA := hide ((unhide HA).call hb)
      clear hb
      have HQ1 := hide Q1
      clear Q1
      have HQ2 := hide Q2
      clear Q2
      have HQ3 := hide Q3
      clear Q3
      refine hK.out _ _ (unhide hk) (fun hHeld => ?_)
      clear hK K
      try simp only [Act.put, List.setIfInBounds_toArray, List.set_cons_zero, List.set_cons_succ]
      refine wpAnyH_ready (rs := [3]) (by kernel_rfl) (by simp) ?_
      refine AllReadyH.cons (i := 3) (o := { dst := some 37, op := Op.call { callee := Callee.value (Operand.func 18), args := #[Operand.tmp 36], argTypes := #[44] }, type := 51, pos := "exact.go:2898", after := #[{ on := 2, ground := Ground.data }, { on := 1, ground := Ground.chain }], guard := none }) rfl (fun K hK => ?_) AllReadyH.nil
      go_simp
      refine (toEnv_c li xa ya xc yc xs ys _ ((unhide SXU).call (unhide hk).bel) ((unhide SYU).call (unhide hk).bel)).mono ?_
      rintro e wz3 ⟨d1, d2, rfl, Q4, Q5, _, hb⟩
      have hk := hide ((unhide hk).call hb)
      have HQ1 := hide ((unhide HQ1).call hb)
      have HQ2 := hide ((unhide HQ2).call hb)
      have HQ3 := hide ((unhide HQ3).call hb)
      have HA := hide ((unhide HA).call hb)
      clear hb
      have HQ4 := hide Q4
      clear Q4
      have HQ5 := hide Q5
      clear Q5
      refine hK.out _ _ (unhide hk) (fun hHeld => ?_)
      clear hK K
      try simp only [Act.put, List.setIfInBounds_toArray, List.set_cons_zero, List.set_cons_succ]
      refine wpAnyH_ready (rs := [6]) (by kernel_rfl) (by simp) ?_
      refine AllReadyH.cons (i := 6) (o := { dst := some 40, op := Op.call { callee := Callee.value (Operand.func 23), args := #[Operand.tmp 39], argTypes := #[57] }, type := 60, pos := "exact.go:2898", after := #[{ on := 5, ground := Ground.data }, { on := 3, ground := Ground.chain }], guard := none }) rfl (fun K hK => ?_) AllReadyH.nil
      go_simp
      refine (toInterval_c _ _ _).mono ?_
      rintro e wz4 ⟨rfl, hb⟩
      have hk := hide ((unhide hk).call hb)
      have HQ1 := hide ((unhide HQ1).call hb)
      have HQ2 := hide ((unhide HQ2).call hb)
      have HQ3 := hide ((unhide HQ3).call hb)
      have HQ4 := hide ((unhide HQ4).call hb)
      have HQ5 := hide ((unhide HQ5).call hb)
      have HA := hide ((unhide HA).call hb)
      clear hb
      refine hK.out _ _ (unhide hk) (fun hHeld => ?_)
      clear hK K
      try simp only [Act.put, List.setIfInBounds_toArray, List.set_cons_zero, List.set_cons_succ]
      refine wpAnyH_ready (rs := [8]) (by kernel_rfl) (by simp) ?_
      refine AllReadyH.cons (i := 8) (o := { dst := some 42, op := Op.call { callee := Callee.value (Operand.func 23), args := #[Operand.tmp 41], argTypes := #[57] }, type := 60, pos := "exact.go:2898", after := #[{ on := 7, ground := Ground.data }, { on := 6, ground := Ground.chain }], guard := none }) rfl (fun K hK => ?_) AllReadyH.nil
      go_simp
      refine (toInterval_c _ _ _).mono ?_
      rintro e wz5 ⟨rfl, hb⟩
      have hk := hide ((unhide hk).call hb)
      have HQ1 := hide ((unhide HQ1).call hb)
      have HQ2 := hide ((unhide HQ2).call hb)
      have HQ3 := hide ((unhide HQ3).call hb)
      have HQ4 := hide ((unhide HQ4).call hb)
      have HQ5 := hide ((unhide HQ5).call hb)
      have HA := hide ((unhide HA).call hb)
      clear hb
      refine hK.out _ _ (unhide hk) (fun hHeld => ?_)
      clear hK K
      try simp only [Act.put, List.setIfInBounds_toArray, List.set_cons_zero, List.set_cons_succ]
      refine wpAnyH_ready (rs := [9]) (by kernel_rfl) (by simp) ?_
      refine AllReadyH.cons (i := 9) (o := { dst := some 43, op := Op.call { callee := Callee.value (Operand.func 22), args := #[Operand.tmp 35, Operand.tmp 37, Operand.tmp 38, Operand.tmp 40, Operand.tmp 42], argTypes := #[35, 51, 2, 60, 60] }, type := 58, pos := "exact.go:2898", after := #[{ on := 1, ground := Ground.data }, { on := 3, ground := Ground.data }, { on := 4, ground := Ground.data }, { on := 6, ground := Ground.data }, { on := 8, ground := Ground.data }, { on := 8, ground := Ground.chain }], guard := none }) rfl (fun K hK => ?_) AllReadyH.nil
      go_simp
      refine (sEnvPut_c b1 b2 b3 _ _ _ vs fs rs li d1 d2 _ _ xs ys v pl ph al ah _ (unhide HQ1).1 (unhide HQ2).1 (unhide HQ3).1 (unhide HZ) (unhide HQ4).1 (unhide HQ5).1).mono ?_
      rintro e wz6 ⟨oa, ca, ob, cb, rfl, RE, hb⟩
      rw [← unhide HOKE, ← unhide HXE, ← unhide HYE, ← unhide HAE]
      rw [← unhide HXE, ← unhide HYE] at RE
      have HR := RowsT.of RE
      have hlb : v1.heap.size ≤ wz5.heap.size := (unhide hk).bel.size
      have hn : bz < wz5.heap.size := (unhide HA).lt
      generalize wz5.heap.size = Bz at HR hlb hn
      generalize wz6.heap.size = Tz at HR
      have HR := hide HR
      have HLB := hide hlb
      have HN : Hid (bz < Bz ∨ Tz ≤ bz) := Or.inl hn
      clear hlb RE hn
      have hk := hide ((unhide hk).call hb)
      have HQ1 := hide ((unhide HQ1).call hb)
      have HQ2 := hide ((unhide HQ2).call hb)
      have HQ3 := hide ((unhide HQ3).call hb)
      have HQ4 := hide ((unhide HQ4).call hb)
      have HQ5 := hide ((unhide HQ5).call hb)
      have HA := hide ((unhide HA).call hb)
      clear hb
      refine hK.out _ _ (unhide hk) (fun hHeld => ?_)
      clear hK K
      try simp only [Act.put, List.setIfInBounds_toArray, List.set_cons_zero, List.set_cons_succ]
      refine wpAnyH_take (i := 10) (oi := { dst := some 33, op := Op.move (Operand.tmp 43), type := 58, pos := "exact.go:2898", after := #[{ on := 9, ground := Ground.data }], guard := none }) (v := ?_) rfl (by kernel_rfl) (by kernel_rfl) (by kernel_rfl) (fun _ _ _ h => h) (Or.inl ⟨by rfl, ?_⟩) (by assumption) ?_
      rotate_left
      · (intro w hSw; (try dsimp only at hSw); go_simp; try with_reducible rfl)
      try simp only [Act.put, List.setIfInBounds_toArray, List.set_cons_zero, List.set_cons_succ]
      refine wpAnyH_take (i := 11) (oi := { dst := some 44, op := Op.extract (Operand.tmp 33) 0, type := 51, pos := "exact.go:2898", after := #[{ on := 10, ground := Ground.data }], guard := none }) (v := ?_) rfl (by kernel_rfl) (by kernel_rfl) (by kernel_rfl) (fun _ _ _ h => h) (Or.inl ⟨by rfl, ?_⟩) (by assumption) ?_
      rotate_left
      · (intro w hSw; (try dsimp only at hSw); go_simp; try with_reducible rfl)
      try simp only [Act.put, List.setIfInBounds_toArray, List.set_cons_zero, List.set_cons_succ]
      refine wpAnyH_take (i := 12) (oi := { dst := some 45, op := Op.extract (Operand.tmp 33) 1, type := 2, pos := "exact.go:2898", after := #[{ on := 10, ground := Ground.data }, { on := 14, ground := Ground.gcOnly Departure.lateStores }], guard := none }) (v := ?_) rfl (by kernel_rfl) (by kernel_rfl) (by kernel_rfl) (fun _ _ _ h => h) (Or.inl ⟨by rfl, ?_⟩) (by assumption) ?_
      rotate_left
      · (intro w hSw; (try dsimp only at hSw); go_simp; try with_reducible rfl)
      try simp only [Act.put, List.setIfInBounds_toArray, List.set_cons_zero, List.set_cons_succ]
      refine wpAnyH_ready (rs := [14]) (by kernel_rfl) (by simp) ?_
      refine AllReadyH.cons (i := 14) (o := { dst := none, op := Op.store 51 (Operand.tmp 12) (Operand.tmp 44), type := 0, pos := "exact.go:2898", after := #[{ on := 13, ground := Ground.data }, { on := 11, ground := Ground.data }, { on := 9, ground := Ground.chain }, { on := 0, ground := Ground.phase }, { on := 1, ground := Ground.phase }, { on := 2, ground := Ground.phase }, { on := 3, ground := Ground.phase }, { on := 4, ground := Ground.phase }, { on := 5, ground := Ground.phase }, { on := 6, ground := Ground.phase }, { on := 7, ground := Ground.phase }, { on := 8, ground := Ground.phase }, { on := 9, ground := Ground.phase }, { on := 10, ground := Ground.phase }, { on := 11, ground := Ground.phase }, { on := 12, ground := Ground.textOnly Departure.lateStores }, { on := 13, ground := Ground.phase }], guard := none }) rfl (fun K hK => ?_) AllReadyH.nil
      obtain ⟨c0, c1_, c2_, cf⟩ := unhide HA
      have f0 := cf 0
      have f1 := cf 1
      have f2 := cf 2
      clear cf
      go_simp
      refine hK.out _ _ ?_ (fun hHeld => ?_)
      · exact GA.of ((((unhide hk).ba.set (unhide HP).1 (unhide HP).2.1 (unhide HP).2.2.1 (unhide HP).2.2.2 (unhide HLG) _).set (unhide HP).1 (unhide HP).2.1 (unhide HP).2.2.1 (unhide HP).2.2.2 (unhide HLG) _).set (unhide HP).1 (unhide HP).2.1 (unhide HP).2.2.1 (unhide HP).2.2.2 (unhide HLG) _)
      clear hK K c0 c1_ c2_ f0 f1 f2
      try simp only [Act.put, List.setIfInBounds_toArray, List.set_cons_zero, List.set_cons_succ]
      refine wpAnyH_take (i := 15) (oi := { dst := some 13, op := Op.assign (Operand.tmp 45), type := 2, pos := "exact.go:2898", after := #[{ on := 12, ground := Ground.data }, { on := 14, ground := Ground.chain }, { on := 0, ground := Ground.phase }, { on := 1, ground := Ground.phase }, { on := 2, ground := Ground.phase }, { on := 3, ground := Ground.phase }, { on := 4, ground := Ground.phase }, { on := 5, ground := Ground.phase }, { on := 6, ground := Ground.phase }, { on := 7, ground := Ground.phase }, { on := 8, ground := Ground.phase }, { on := 9, ground := Ground.phase }, { on := 10, ground := Ground.phase }, { on := 11, ground := Ground.phase }, { on := 12, ground := Ground.phase }, { on := 13, ground := Ground.phase }, { on := 14, ground := Ground.phase }], guard := none }) (v := ?_) rfl (by kernel_rfl) (by kernel_rfl) (by kernel_rfl) (fun _ _ _ h => h) (Or.inl ⟨by rfl, ?_⟩) (by assumption) ?_
      rotate_left
      · (intro w hSw; (try dsimp only at hSw); go_simp; try with_reducible rfl)
      try simp only [Act.put, List.setIfInBounds_toArray, List.set_cons_zero, List.set_cons_succ]
      refine wpAnyH_done (by kernel_rfl) ?_ _
      clear hHeld
      go_wp2_with fail
      go_meet
      exact ⟨bz, Bz, Tz, oa, ca, ob, cb, rfl, rfl, Ans.stored (unhide HA) (unhide HR) (unhide HN), unhide HLB, unhide HLG, bel_set (bel_set (bel_set (unhide hk).bel (unhide HLG)) (unhide HLG)) (unhide HLG)⟩
  case rest =>
  obtain ⟨g1, B1, T1, oa, ca, ob, cb, rfl, rfl, hans, _, _, hbel⟩ := hcut
  have HB := hide ((unhide HB).call hbel)
  have AN1 := hide hans
  clear hans hbel HS HP SVU SFU SRU SXU SYU HWU
  obtain ⟨wd, rfl⟩ : ∃ wd : World, wd = wc := ⟨_, rfl⟩
  obtain ⟨lo, hlo⟩ : ∃ lo, lo = wd.heap.size := ⟨_, rfl⟩
  have HLO : Hid (w.heap.size + 3 < lo ∧ g1 < lo ∧ T1 ≤ lo ∧ w.heap.size ≤ lo) := by rw [hlo]; exact ⟨World.block_lt_of_cell? _ _ (unhide HB).2.2.2.1.1, (unhide AN1).1.lt, (unhide AN1).2.1.2.2.2, (unhide HB).2.2.2.2.size⟩
  have p0 := (unhide HB).1.1
  have p1 := (unhide HB).1.2.1
  have p2 := (unhide HB).1.2.2.1
  go_wp2_with fail
  refine (toDecl_c va fa ra vc fc rc vs fs rs _ ((unhide SV).call (unhide HB).2.2.2.2) ((unhide SF).call (unhide HB).2.2.2.2) ((unhide SR).call (unhide HB).2.2.2.2)).mono ?_
  rintro e x0 ⟨c1, c2, c3, rfl, R1, R2, R3, hcl, kb⟩
  rw [← hlo] at hcl
  clear hlo p0 p1 p2
  have HB := hide ((unhide HB).call kb)
  have AN1 := hide ((unhide AN1).call kb)
  clear kb
  have HR1 := hide R1
  have HR2 := hide R2
  have HR3 := hide R3
  clear R1 R2 R3
  have lc3 : c3 < x0.heap.size := (unhide HR3).2.2
  have ka := (Below.refl _ x0).alloc (Nat.le_refl _) (Obj.cells #[.slice (some ⟨c1, 0, none⟩) vs.length vs.length, .slice (some ⟨c2, 0, none⟩) fs.length fs.length, .slice (some ⟨c3, 0, none⟩) rs.length rs.length] 35)
  have HA0 := hide (C3.new x0 (.slice (some ⟨c1, 0, none⟩) vs.length vs.length) (.slice (some ⟨c2, 0, none⟩) fs.length fs.length) (.slice (some ⟨c3, 0, none⟩) rs.length rs.length) 35)
  have HB := hide ((unhide HB).call ka)
  have AN1 := hide ((unhide AN1).call ka)
  have HR1 := hide ((unhide HR1).call ka)
  have HR2 := hide ((unhide HR2).call ka)
  have HR3 := hide ((unhide HR3).call ka)
  clear ka
  obtain ⟨X0, hX⟩ : ∃ X, X = x0.heap.size := ⟨_, rfl⟩
  obtain ⟨z0, hz⟩ : ∃ z, z = x0.alloc (Obj.cells #[.slice (some ⟨c1, 0, none⟩) vs.length vs.length, .slice (some ⟨c2, 0, none⟩) fs.length fs.length, .slice (some ⟨c3, 0, none⟩) rs.length rs.length] 35) := ⟨_, rfl⟩
  have hsz : z0.heap.size = X0 + 1 := by rw [hz, hX]; simp
  rw [← hX, ← hz] at HA0
  rw [← hz] at HB AN1 HR1 HR2 HR3
  rw [← hX] at lc3
  obtain ⟨mid, hmid⟩ : ∃ m, m = X0 + 1 := ⟨_, rfl⟩
  have HMID : Hid (lo ≤ c1 ∧ c1 < c2 ∧ c2 < c3 ∧ c3 < mid ∧ X0 < mid ∧ z0.heap.size = mid) := ⟨hcl.1, hcl.2.1, hcl.2.2, by omega, by omega, by omega⟩
  clear hcl lc3 hmid hsz
  have hXZ := hide (And.intro hX hz)
  clear hX hz
  go_upto_region 10 with fail
  rw [← (unhide hXZ).1, ← (unhide hXZ).2]
  clear hXZ
  have p0 := (unhide HB).2.1.1
  have p1 := (unhide HB).2.1.2.1
  have p2 := (unhide HB).2.1.2.2.1
  go_wp2_with fail
  refine (toEnv_c li xa ya xc yc xs ys _ ((unhide SX).call (unhide HB).2.2.2.2) ((unhide SY).call (unhide HB).2.2.2.2)).mono ?_
  rintro e x1 ⟨e1, e2, rfl, R4, R5, hel, kb⟩
  clear p0 p1 p2
  have HB := hide ((unhide HB).call kb)
  have AN1 := hide ((unhide AN1).call kb)
  have HR1 := hide ((unhide HR1).call kb)
  have HR2 := hide ((unhide HR2).call kb)
  have HR3 := hide ((unhide HR3).call kb)
  have HA0 := hide ((unhide HA0).call kb)
  clear kb
  have HR4 := hide R4
  have HR5 := hide R5
  clear R4 R5
  have le2 : e2 < x1.heap.size := (unhide HR5).2.2
  have ka := (Below.refl _ x1).alloc (Nat.le_refl _) (Obj.cells #[.bool li, .slice (some ⟨e1, 0, none⟩) xs.length xs.length, .slice (some ⟨e2, 0, none⟩) ys.length ys.length] 51)
  have HA1 := hide (C3.new x1 (.bool li) (.slice (some ⟨e1, 0, none⟩) xs.length xs.length) (.slice (some ⟨e2, 0, none⟩) ys.length ys.length) 51)
  have HB := hide ((unhide HB).call ka)
  have AN1 := hide ((unhide AN1).call ka)
  have HR1 := hide ((unhide HR1).call ka)
  have HR2 := hide ((unhide HR2).call ka)
  have HR3 := hide ((unhide HR3).call ka)
  have HA0 := hide ((unhide HA0).call ka)
  have HR4 := hide ((unhide HR4).call ka)
  have HR5 := hide ((unhide HR5).call ka)
  clear ka
  obtain ⟨X1, hX⟩ : ∃ X, X = x1.heap.size := ⟨_, rfl⟩
  obtain ⟨z1, hz⟩ : ∃ z, z = x1.alloc (Obj.cells #[.bool li, .slice (some ⟨e1, 0, none⟩) xs.length xs.length, .slice (some ⟨e2, 0, none⟩) ys.length ys.length] 51) := ⟨_, rfl⟩
  have hsz : z1.heap.size = X1 + 1 := by rw [hz, hX]; simp
  rw [← hX, ← hz] at HA1
  rw [← hz] at HB AN1 HR1 HR2 HR3 HA0 HR4 HR5
  rw [← hX] at le2
  have HHI : Hid (mid ≤ e1 ∧ e1 < e2 ∧ e2 < z1.heap.size ∧ X1 < z1.heap.size ∧ mid ≤ X1) := ⟨by have := (unhide HMID).2.2.2.2.2; omega, hel.2, by omega, by omega, by have := (unhide HMID).2.2.2.2.2; omega⟩
  clear hel le2 hsz
  have hXZ := hide (And.intro hX hz)
  clear hX hz
  go_upto_region 11 with fail
  rw [← (unhide hXZ).1, ← (unhide hXZ).2]
  clear hXZ
  have HS : Hid (BA z1 X0 X1 (w.heap.size + 2) (w.heap.size + 3) (.slice (some ⟨c1, 0, none⟩) vs.length vs.length) (.slice (some ⟨c2, 0, none⟩) fs.length fs.length) (.slice (some ⟨c3, 0, none⟩) rs.length rs.length) (.bool li) (.slice (some ⟨e1, 0, none⟩) xs.length xs.length) (.slice (some ⟨e2, 0, none⟩) ys.length ys.length) (.int .i64 pl) (.int .i64 ph) (.int .i64 al) (.int .i64 ah) z1) := ⟨unhide HA0, unhide HA1, (unhide HB).2.2.1, (unhide HB).2.2.2.1, Below.refl _ _⟩
  have HP : Hid (X0 < z1.heap.size ∧ X1 < z1.heap.size ∧ w.heap.size + 2 < z1.heap.size ∧ w.heap.size + 3 < z1.heap.size) := ⟨(unhide HA0).lt, (unhide HA1).lt, World.block_lt_of_cell? _ _ (unhide HB).2.2.1.1, World.block_lt_of_cell? _ _ (unhide HB).2.2.2.1.1⟩
  have HWU := hide ((unhide HW).call (unhide HB).2.2.2.2)
  go_cut [16, 17] (fun q a wc => ∃ g B T oa ca ob cb, q = .pointer (some ⟨g, 0, none⟩) ∧ a = .int .i64 A ∧ Ans g B T ok oa ca ob cb X Y wc ∧ z1.heap.size ≤ B ∧ z1.heap.size ≤ g ∧ Below z1.heap.size z1 wc)
  case first =>
    have hk := hide (GA.drew (GA.of (unhide HS)))
    obtain ⟨wz0, hw0⟩ : ∃ x, x = z1.drew := ⟨_, rfl⟩
    rw [← hw0] at hk
    refine wp_region_held_drew (S := (GA z1 (X0) (X1) (w.heap.size + 2) (w.heap.size + 3) (.slice (some ⟨c1, 0, none⟩) vs.length vs.length) (.slice (some ⟨c2, 0, none⟩) fs.length fs.length) (.slice (some ⟨c3, 0, none⟩) rs.length rs.length) (.bool li) (.slice (some ⟨e1, 0, none⟩) xs.length xs.length) (.slice (some ⟨e2, 0, none⟩) ys.length ys.length) (.int .i64 pl) (.int .i64 ph) (.int .i64 al) (.int .i64 ah))) (by kernel_rfl) (by rw [← hw0]; exact unhide hk) (fun hHeld => ?_)
    rw [← hw0] at hHeld ⊢
    clear hw0
    refine wpAnyH_take (i := 0) (oi := { dst := some 51, op := Op.load 35 (Operand.tmp 14), type := 35, pos := "exact.go:2901", after := #[], guard := none }) (v := ?_) rfl (by kernel_rfl) (by kernel_rfl) (by kernel_rfl) (fun _ _ _ h => h) (Or.inl ⟨by rfl, ?_⟩) (by assumption) ?_
    rotate_left
    · (intro w hSw; (try dsimp only at hSw); go_simp; try with_reducible rfl)
    try simp only [Act.put, List.setIfInBounds_toArray, List.set_cons_zero, List.set_cons_succ]
    refine wpAnyH_take (i := 1) (oi := { dst := some 52, op := Op.load 51 (Operand.tmp 15), type := 51, pos := "exact.go:2901", after := #[], guard := none }) (v := ?_) rfl (by kernel_rfl) (by kernel_rfl) (by kernel_rfl) (fun _ _ _ h => h) (Or.inl ⟨by rfl, ?_⟩) (by assumption) ?_
    rotate_left
    · (intro w hSw; (try dsimp only at hSw); go_simp; try with_reducible rfl)
    try simp only [Act.put, List.setIfInBounds_toArray, List.set_cons_zero, List.set_cons_succ]
    refine wpAnyH_take (i := 2) (oi := { dst := some 53, op := Op.move (Operand.tmp 2), type := 2, pos := "exact.go:2901", after := #[], guard := none }) (v := ?_) rfl (by kernel_rfl) (by kernel_rfl) (by kernel_rfl) (fun _ _ _ h => h) (Or.inl ⟨by rfl, ?_⟩) (by assumption) ?_
    rotate_left
    · (intro w hSw; (try dsimp only at hSw); go_simp; try with_reducible rfl)
    try simp only [Act.put, List.setIfInBounds_toArray, List.set_cons_zero, List.set_cons_succ]
    refine wpAnyH_take (i := 3) (oi := { dst := some 54, op := Op.load 57 (Operand.tmp 8), type := 57, pos := "exact.go:2901", after := #[], guard := none }) (v := ?_) rfl (by kernel_rfl) (by kernel_rfl) (by kernel_rfl) (fun _ _ _ h => h) (Or.inl ⟨by rfl, ?_⟩) (by assumption) ?_
    rotate_left
    · (intro w hSw; (try dsimp only at hSw); go_simp; try with_reducible rfl)
    try simp only [Act.put, List.setIfInBounds_toArray, List.set_cons_zero, List.set_cons_succ]
    refine wpAnyH_take (i := 5) (oi := { dst := some 56, op := Op.load 57 (Operand.tmp 9), type := 57, pos := "exact.go:2901", after := #[], guard := none }) (v := ?_) rfl (by kernel_rfl) (by kernel_rfl) (by kernel_rfl) (fun _ _ _ h => h) (Or.inl ⟨by rfl, ?_⟩) (by assumption) ?_
    rotate_left
    · (intro w hSw; (try dsimp only at hSw); go_simp; try with_reducible rfl)
    try simp only [Act.put, List.setIfInBounds_toArray, List.set_cons_zero, List.set_cons_succ]
    refine wpAnyH_ready (rs := [4, 11]) (by kernel_rfl) (by simp) ?_
    refine AllReadyH.cons (i := 4) (o := { dst := some 55, op := Op.call { callee := Callee.value (Operand.func 23), args := #[Operand.tmp 54], argTypes := #[57] }, type := 60, pos := "exact.go:2901", after := #[{ on := 3, ground := Ground.data }], guard := none }) rfl (fun K hK => ?_) (AllReadyH.cons (i := 11) (o := { dst := some 16, op := Op.alloc 51, type := 0, pos := "exact.go:2901", after := #[], guard := none }) rfl (fun K hK => ?_) AllReadyH.nil)
    · go_simp
      refine (toInterval_c _ _ _).mono ?_
      rintro e wz1 ⟨rfl, hb⟩
      have hk := hide ((unhide hk).call hb)
      clear hb
      refine hK.out _ _ (unhide hk) (fun hHeld => ?_)
      clear hK K
      try simp only [Act.put, List.setIfInBounds_toArray, List.set_cons_zero, List.set_cons_succ]
      refine wpAnyH_ready (rs := [6, 11]) (by kernel_rfl) (by simp) ?_
      refine AllReadyH.cons (i := 6) (o := { dst := some 57, op := Op.call { callee := Callee.value (Operand.func 23), args := #[Operand.tmp 56], argTypes := #[57] }, type := 60, pos := "exact.go:2901", after := #[{ on := 5, ground := Ground.data }, { on := 4, ground := Ground.chain }], guard := none }) rfl (fun K hK => ?_) (AllReadyH.cons (i := 11) (o := { dst := some 16, op := Op.alloc 51, type := 0, pos := "exact.go:2901", after := #[], guard := none }) rfl (fun K hK => ?_) AllReadyH.nil)
      · go_simp
        refine (toInterval_c _ _ _).mono ?_
        rintro e wz2 ⟨rfl, hb⟩
        have hk := hide ((unhide hk).call hb)
        clear hb
        refine hK.out _ _ (unhide hk) (fun hHeld => ?_)
        clear hK K
        try simp only [Act.put, List.setIfInBounds_toArray, List.set_cons_zero, List.set_cons_succ]
        refine wpAnyH_ready (rs := [7, 11]) (by kernel_rfl) (by simp) ?_
        refine AllReadyH.cons (i := 7) (o := { dst := some 58, op := Op.call { callee := Callee.value (Operand.func 24), args := #[Operand.tmp 51, Operand.tmp 52, Operand.tmp 53, Operand.tmp 55, Operand.tmp 57], argTypes := #[35, 51, 2, 60, 60] }, type := 58, pos := "exact.go:2901", after := #[{ on := 0, ground := Ground.data }, { on := 1, ground := Ground.data }, { on := 2, ground := Ground.data }, { on := 4, ground := Ground.data }, { on := 6, ground := Ground.data }, { on := 6, ground := Ground.chain }], guard := none }) rfl (fun K hK => ?_) (AllReadyH.cons (i := 11) (o := { dst := some 16, op := Op.alloc 51, type := 0, pos := "exact.go:2901", after := #[], guard := none }) rfl (fun K hK => ?_) AllReadyH.nil)
        · go_simp
          refine (iEnvPut_c c1 c2 c3 _ _ _ vs fs rs li e1 e2 _ _ xs ys v pl ph al ah _ ((unhide HWU).call (unhide hk).bel) ((unhide HR1).call (unhide hk).bel).1 ((unhide HR2).call (unhide hk).bel).1 ((unhide HR3).call (unhide hk).bel).1 (unhide HZ) ((unhide HR4).call (unhide hk).bel).1 ((unhide HR5).call (unhide hk).bel).1).mono ?_
          rintro e wz3 ⟨oa, ca, ob, cb, rfl, RE, hb⟩
          rw [← unhide HOKE, ← unhide HXE, ← unhide HYE, ← unhide HAE]
          rw [← unhide HXE, ← unhide HYE] at RE
          have HR := RowsT.of RE
          have hlb : z1.heap.size ≤ wz2.heap.size := (unhide hk).bel.size
          generalize wz2.heap.size = Bz at HR hlb
          generalize wz3.heap.size = Tz at HR
          have HR := hide HR
          have HLB := hide hlb
          clear hlb RE
          have hk := hide ((unhide hk).call hb)
          clear hb
          refine hK.out _ _ (unhide hk) (fun hHeld => ?_)
          clear hK K
          try simp only [Act.put, List.setIfInBounds_toArray, List.set_cons_zero, List.set_cons_succ]
          refine wpAnyH_take (i := 8) (oi := { dst := some 50, op := Op.move (Operand.tmp 58), type := 58, pos := "exact.go:2901", after := #[{ on := 7, ground := Ground.data }], guard := none }) (v := ?_) rfl (by kernel_rfl) (by kernel_rfl) (by kernel_rfl) (fun _ _ _ h => h) (Or.inl ⟨by rfl, ?_⟩) (by assumption) ?_
          rotate_left
          · (intro w hSw; (try dsimp only at hSw); go_simp; try with_reducible rfl)
          try simp only [Act.put, List.setIfInBounds_toArray, List.set_cons_zero, List.set_cons_succ]
          refine wpAnyH_take (i := 9) (oi := { dst := some 59, op := Op.extract (Operand.tmp 50) 0, type := 51, pos := "exact.go:2901", after := #[{ on := 8, ground := Ground.data }], guard := none }) (v := ?_) rfl (by kernel_rfl) (by kernel_rfl) (by kernel_rfl) (fun _ _ _ h => h) (Or.inl ⟨by rfl, ?_⟩) (by assumption) ?_
          rotate_left
          · (intro w hSw; (try dsimp only at hSw); go_simp; try with_reducible rfl)
          try simp only [Act.put, List.setIfInBounds_toArray, List.set_cons_zero, List.set_cons_succ]
          refine wpAnyH_take (i := 10) (oi := { dst := some 60, op := Op.extract (Operand.tmp 50) 1, type := 2, pos := "exact.go:2901", after := #[{ on := 8, ground := Ground.data }, { on := 12, ground := Ground.gcOnly Departure.lateStores }], guard := none }) (v := ?_) rfl (by kernel_rfl) (by kernel_rfl) (by kernel_rfl) (fun _ _ _ h => h) (Or.inl ⟨by rfl, ?_⟩) (by assumption) ?_
          rotate_left
          · (intro w hSw; (try dsimp only at hSw); go_simp; try with_reducible rfl)
          try simp only [Act.put, List.setIfInBounds_toArray, List.set_cons_zero, List.set_cons_succ]
          refine wpAnyH_ready (rs := [11]) (by kernel_rfl) (by simp) ?_
          refine AllReadyH.cons (i := 11) (o := { dst := some 16, op := Op.alloc 51, type := 0, pos := "exact.go:2901", after := #[], guard := none }) rfl (fun K hK => ?_) AllReadyH.nil
          have HA := C3.new wz3 (.bool false) (.slice none 0 0) (.slice none 0 0) 51
          have hlg : z1.heap.size ≤ wz3.heap.size := (unhide hk).bel.size
          have hn : Tz ≤ wz3.heap.size := (unhide HR).2.2.2
          have ka := (Below.refl _ wz3).alloc (Nat.le_refl _) (Obj.cells #[.bool false, .slice none 0 0, .slice none 0 0] 51)
          have hk := hide ((unhide hk).call ka)
          have HR := hide ((unhide HR).call ka)
          clear ka
          go_simp
          refine hK.out _ _ (unhide hk) (fun hHeld => ?_)
          clear hK K
          try simp only [Act.put, List.setIfInBounds_toArray, List.set_cons_zero, List.set_cons_succ]
          clear hHeld
          generalize hg : wz3.alloc (Obj.cells #[.bool false, .slice none 0 0, .slice none 0 0] 51) = wz4 at HA hk HR ⊢
          clear hg
          have hHeld := unhide hk
          generalize wz3.heap.size = bz at HA hlg hn ⊢
          have HA := hide HA
          have HLG := hide hlg
          have HN : Hid (bz < Bz ∨ Tz ≤ bz) := Or.inr hn
          clear hlg hn
          refine wpAnyH_ready (rs := [12]) (by kernel_rfl) (by simp) ?_
          refine AllReadyH.cons (i := 12) (o := { dst := none, op := Op.store 51 (Operand.tmp 16) (Operand.tmp 59), type := 0, pos := "exact.go:2901", after := #[{ on := 11, ground := Ground.data }, { on := 9, ground := Ground.data }, { on := 7, ground := Ground.chain }, { on := 0, ground := Ground.phase }, { on := 1, ground := Ground.phase }, { on := 2, ground := Ground.phase }, { on := 3, ground := Ground.phase }, { on := 4, ground := Ground.phase }, { on := 5, ground := Ground.phase }, { on := 6, ground := Ground.phase }, { on := 7, ground := Ground.phase }, { on := 8, ground := Ground.phase }, { on := 9, ground := Ground.phase }, { on := 10, ground := Ground.textOnly Departure.lateStores }, { on := 11, ground := Ground.phase }], guard := none }) rfl (fun K hK => ?_) AllReadyH.nil
          obtain ⟨c0, c1_, c2_, cf⟩ := unhide HA
          have f0 := cf 0
          have f1 := cf 1
          have f2 := cf 2
          clear cf
          go_simp
          refine hK.out _ _ ?_ (fun hHeld => ?_)
          · exact GA.of ((((unhide hk).ba.set (unhide HP).1 (unhide HP).2.1 (unhide HP).2.2.1 (unhide HP).2.2.2 (unhide HLG) _).set (unhide HP).1 (unhide HP).2.1 (unhide HP).2.2.1 (unhide HP).2.2.2 (unhide HLG) _).set (unhide HP).1 (unhide HP).2.1 (unhide HP).2.2.1 (unhide HP).2.2.2 (unhide HLG) _)
          clear hK K c0 c1_ c2_ f0 f1 f2
          try simp only [Act.put, List.setIfInBounds_toArray, List.set_cons_zero, List.set_cons_succ]
          refine wpAnyH_take (i := 13) (oi := { dst := some 17, op := Op.assign (Operand.tmp 60), type := 2, pos := "exact.go:2901", after := #[{ on := 10, ground := Ground.data }, { on := 12, ground := Ground.chain }, { on := 0, ground := Ground.phase }, { on := 1, ground := Ground.phase }, { on := 2, ground := Ground.phase }, { on := 3, ground := Ground.phase }, { on := 4, ground := Ground.phase }, { on := 5, ground := Ground.phase }, { on := 6, ground := Ground.phase }, { on := 7, ground := Ground.phase }, { on := 8, ground := Ground.phase }, { on := 9, ground := Ground.phase }, { on := 10, ground := Ground.phase }, { on := 11, ground := Ground.phase }, { on := 12, ground := Ground.phase }], guard := none }) (v := ?_) rfl (by kernel_rfl) (by kernel_rfl) (by kernel_rfl) (fun _ _ _ h => h) (Or.inl ⟨by rfl, ?_⟩) (by assumption) ?_
          rotate_left
          · (intro w hSw; (try dsimp only at hSw); go_simp; try with_reducible rfl)
          try simp only [Act.put, List.setIfInBounds_toArray, List.set_cons_zero, List.set_cons_succ]
          refine wpAnyH_done (by kernel_rfl) ?_ _
          clear hHeld
          go_wp2_with fail
          go_meet
          exact ⟨bz, Bz, Tz, oa, ca, ob, cb, rfl, rfl, Ans.stored (unhide HA) (unhide HR) (unhide HN), unhide HLB, unhide HLG, bel_set (bel_set (bel_set (unhide hk).bel (unhide HLG)) (unhide HLG)) (unhide HLG)⟩
        · have HA := C3.new wz2 (.bool false) (.slice none 0 0) (.slice none 0 0) 51
          have hlg : z1.heap.size ≤ wz2.heap.size := (unhide hk).bel.size
          have ka := (Below.refl _ wz2).alloc (Nat.le_refl _) (Obj.cells #[.bool false, .slice none 0 0, .slice none 0 0] 51)
          have hk := hide ((unhide hk).call ka)
          clear ka
          go_simp
          refine hK.out _ _ (unhide hk) (fun hHeld => ?_)
          clear hK K
          try simp only [Act.put, List.setIfInBounds_toArray, List.set_cons_zero, List.set_cons_succ]
          clear hHeld
          generalize hg : wz2.alloc (Obj.cells #[.bool false, .slice none 0 0, .slice none 0 0] 51) = wz3 at HA hk  ⊢
          clear hg
          have hHeld := unhide hk
          generalize wz2.heap.size = bz at HA hlg ⊢
          have HA := hide HA
          have HLG := hide hlg
          clear hlg
          refine wpAnyH_ready (rs := [7]) (by kernel_rfl) (by simp) ?_
          refine AllReadyH.cons (i := 7) (o := { dst := some 58, op := Op.call { callee := Callee.value (Operand.func 24), args := #[Operand.tmp 51, Operand.tmp 52, Operand.tmp 53, Operand.tmp 55, Operand.tmp 57], argTypes := #[35, 51, 2, 60, 60] }, type := 58, pos := "exact.go:2901", after := #[{ on := 0, ground := Ground.data }, { on := 1, ground := Ground.data }, { on := 2, ground := Ground.data }, { on := 4, ground := Ground.data }, { on := 6, ground := Ground.data }, { on := 6, ground := Ground.chain }], guard := none }) rfl (fun K hK => ?_) AllReadyH.nil
          go_simp
          refine (iEnvPut_c c1 c2 c3 _ _ _ vs fs rs li e1 e2 _ _ xs ys v pl ph al ah _ ((unhide HWU).call (unhide hk).bel) ((unhide HR1).call (unhide hk).bel).1 ((unhide HR2).call (unhide hk).bel).1 ((unhide HR3).call (unhide hk).bel).1 (unhide HZ) ((unhide HR4).call (unhide hk).bel).1 ((unhide HR5).call (unhide hk).bel).1).mono ?_
          rintro e wz4 ⟨oa, ca, ob, cb, rfl, RE, hb⟩
          rw [← unhide HOKE, ← unhide HXE, ← unhide HYE, ← unhide HAE]
          rw [← unhide HXE, ← unhide HYE] at RE
          have HR := RowsT.of RE
          have hlb : z1.heap.size ≤ wz3.heap.size := (unhide hk).bel.size
          have hn : bz < wz3.heap.size := (unhide HA).lt
          generalize wz3.heap.size = Bz at HR hlb hn
          generalize wz4.heap.size = Tz at HR
          have HR := hide HR
          have HLB := hide hlb
          have HN : Hid (bz < Bz ∨ Tz ≤ bz) := Or.inl hn
          clear hlb RE hn
          have hk := hide ((unhide hk).call hb)
          have HA := hide ((unhide HA).call hb)
          clear hb
          refine hK.out _ _ (unhide hk) (fun hHeld => ?_)
          clear hK K
          try simp only [Act.put, List.setIfInBounds_toArray, List.set_cons_zero, List.set_cons_succ]
          refine wpAnyH_take (i := 8) (oi := { dst := some 50, op := Op.move (Operand.tmp 58), type := 58, pos := "exact.go:2901", after := #[{ on := 7, ground := Ground.data }], guard := none }) (v := ?_) rfl (by kernel_rfl) (by kernel_rfl) (by kernel_rfl) (fun _ _ _ h => h) (Or.inl ⟨by rfl, ?_⟩) (by assumption) ?_
          rotate_left
          · (intro w hSw; (try dsimp only at hSw); go_simp; try with_reducible rfl)
          try simp only [Act.put, List.setIfInBounds_toArray, List.set_cons_zero, List.set_cons_succ]
          refine wpAnyH_take (i := 9) (oi := { dst := some 59, op := Op.extract (Operand.tmp 50) 0, type := 51, pos := "exact.go:2901", after := #[{ on := 8, ground := Ground.data }], guard := none }) (v := ?_) rfl (by kernel_rfl) (by kernel_rfl) (by kernel_rfl) (fun _ _ _ h => h) (Or.inl ⟨by rfl, ?_⟩) (by assumption) ?_
          rotate_left
          · (intro w hSw; (try dsimp only at hSw); go_simp; try with_reducible rfl)
          try simp only [Act.put, List.setIfInBounds_toArray, List.set_cons_zero, List.set_cons_succ]
          refine wpAnyH_take (i := 10) (oi := { dst := some 60, op := Op.extract (Operand.tmp 50) 1, type := 2, pos := "exact.go:2901", after := #[{ on := 8, ground := Ground.data }, { on := 12, ground := Ground.gcOnly Departure.lateStores }], guard := none }) (v := ?_) rfl (by kernel_rfl) (by kernel_rfl) (by kernel_rfl) (fun _ _ _ h => h) (Or.inl ⟨by rfl, ?_⟩) (by assumption) ?_
          rotate_left
          · (intro w hSw; (try dsimp only at hSw); go_simp; try with_reducible rfl)
          try simp only [Act.put, List.setIfInBounds_toArray, List.set_cons_zero, List.set_cons_succ]
          refine wpAnyH_ready (rs := [12]) (by kernel_rfl) (by simp) ?_
          refine AllReadyH.cons (i := 12) (o := { dst := none, op := Op.store 51 (Operand.tmp 16) (Operand.tmp 59), type := 0, pos := "exact.go:2901", after := #[{ on := 11, ground := Ground.data }, { on := 9, ground := Ground.data }, { on := 7, ground := Ground.chain }, { on := 0, ground := Ground.phase }, { on := 1, ground := Ground.phase }, { on := 2, ground := Ground.phase }, { on := 3, ground := Ground.phase }, { on := 4, ground := Ground.phase }, { on := 5, ground := Ground.phase }, { on := 6, ground := Ground.phase }, { on := 7, ground := Ground.phase }, { on := 8, ground := Ground.phase }, { on := 9, ground := Ground.phase }, { on := 10, ground := Ground.textOnly Departure.lateStores }, { on := 11, ground := Ground.phase }], guard := none }) rfl (fun K hK => ?_) AllReadyH.nil
          obtain ⟨c0, c1_, c2_, cf⟩ := unhide HA
          have f0 := cf 0
          have f1 := cf 1
          have f2 := cf 2
          clear cf
          go_simp
          refine hK.out _ _ ?_ (fun hHeld => ?_)
          · exact GA.of ((((unhide hk).ba.set (unhide HP).1 (unhide HP).2.1 (unhide HP).2.2.1 (unhide HP).2.2.2 (unhide HLG) _).set (unhide HP).1 (unhide HP).2.1 (unhide HP).2.2.1 (unhide HP).2.2.2 (unhide HLG) _).set (unhide HP).1 (unhide HP).2.1 (unhide HP).2.2.1 (unhide HP).2.2.2 (unhide HLG) _)
          clear hK K c0 c1_ c2_ f0 f1 f2
          try simp only [Act.put, List.setIfInBounds_toArray, List.set_cons_zero, List.set_cons_succ]
          refine wpAnyH_take (i := 13) (oi := { dst := some 17, op := Op.assign (Operand.tmp 60), type := 2, pos := "exact.go:2901", after := #[{ on := 10, ground := Ground.data }, { on := 12, ground := Ground.chain }, { on := 0, ground := Ground.phase }, { on := 1, ground := Ground.phase }, { on := 2, ground := Ground.phase }, { on := 3, ground := Ground.phase }, { on := 4, ground := Ground.phase }, { on := 5, ground := Ground.phase }, { on := 6, ground := Ground.phase }, { on := 7, ground := Ground.phase }, { on := 8, ground := Ground.phase }, { on := 9, ground := Ground.phase }, { on := 10, ground := Ground.phase }, { on := 11, ground := Ground.phase }, { on := 12, ground := Ground.phase }], guard := none }) (v := ?_) rfl (by kernel_rfl) (by kernel_rfl) (by kernel_rfl) (fun _ _ _ h => h) (Or.inl ⟨by rfl, ?_⟩) (by assumption) ?_
          rotate_left
          · (intro w hSw; (try dsimp only at hSw); go_simp; try with_reducible rfl)
          try simp only [Act.put, List.setIfInBounds_toArray, List.set_cons_zero, List.set_cons_succ]
          refine wpAnyH_done (by kernel_rfl) ?_ _
          clear hHeld
          go_wp2_with fail
          go_meet
          exact ⟨bz, Bz, Tz, oa, ca, ob, cb, rfl, rfl, Ans.stored (unhide HA) (unhide HR) (unhide HN), unhide HLB, unhide HLG, bel_set (bel_set (bel_set (unhide hk).bel (unhide HLG)) (unhide HLG)) (unhide HLG)⟩
      · have HA := C3.new wz1 (.bool false) (.slice none 0 0) (.slice none 0 0) 51
        have hlg : z1.heap.size ≤ wz1.heap.size := (unhide hk).bel.size
        have ka := (Below.refl _ wz1).alloc (Nat.le_refl _) (Obj.cells #[.bool false, .slice none 0 0, .slice none 0 0] 51)
        have hk := hide ((unhide hk).call ka)
        clear ka
        go_simp
        refine hK.out _ _ (unhide hk) (fun hHeld => ?_)
        clear hK K
        try simp only [Act.put, List.setIfInBounds_toArray, List.set_cons_zero, List.set_cons_succ]
        clear hHeld
        generalize hg : wz1.alloc (Obj.cells #[.bool false, .slice none 0 0, .slice none 0 0] 51) = wz2 at HA hk  ⊢
        clear hg
        have hHeld := unhide hk
        generalize wz1.heap.size = bz at HA hlg ⊢
        have HA := hide HA
        have HLG := hide hlg
        clear hlg
        refine wpAnyH_ready (rs := [6]) (by kernel_rfl) (by simp) ?_
        refine AllReadyH.cons (i := 6) (o := { dst := some 57, op := Op.call { callee := Callee.value (Operand.func 23), args := #[Operand.tmp 56], argTypes := #[57] }, type := 60, pos := "exact.go:2901", after := #[{ on := 5, ground := Ground.data }, { on := 4, ground := Ground.chain }], guard := none }) rfl (fun K hK => ?_) AllReadyH.nil
        go_simp
        refine (toInterval_c _ _ _).mono ?_
        rintro e wz3 ⟨rfl, hb⟩
        have hk := hide ((unhide hk).call hb)
        have HA := hide ((unhide HA).call hb)
        clear hb
        refine hK.out _ _ (unhide hk) (fun hHeld => ?_)
        clear hK K
        try simp only [Act.put, List.setIfInBounds_toArray, List.set_cons_zero, List.set_cons_succ]
        refine wpAnyH_ready (rs := [7]) (by kernel_rfl) (by simp) ?_
        refine AllReadyH.cons (i := 7) (o := { dst := some 58, op := Op.call { callee := Callee.value (Operand.func 24), args := #[Operand.tmp 51, Operand.tmp 52, Operand.tmp 53, Operand.tmp 55, Operand.tmp 57], argTypes := #[35, 51, 2, 60, 60] }, type := 58, pos := "exact.go:2901", after := #[{ on := 0, ground := Ground.data }, { on := 1, ground := Ground.data }, { on := 2, ground := Ground.data }, { on := 4, ground := Ground.data }, { on := 6, ground := Ground.data }, { on := 6, ground := Ground.chain }], guard := none }) rfl (fun K hK => ?_) AllReadyH.nil
        go_simp
        refine (iEnvPut_c c1 c2 c3 _ _ _ vs fs rs li e1 e2 _ _ xs ys v pl ph al ah _ ((unhide HWU).call (unhide hk).bel) ((unhide HR1).call (unhide hk).bel).1 ((unhide HR2).call (unhide hk).bel).1 ((unhide HR3).call (unhide hk).bel).1 (unhide HZ) ((unhide HR4).call (unhide hk).bel).1 ((unhide HR5).call (unhide hk).bel).1).mono ?_
        rintro e wz4 ⟨oa, ca, ob, cb, rfl, RE, hb⟩
        rw [← unhide HOKE, ← unhide HXE, ← unhide HYE, ← unhide HAE]
        rw [← unhide HXE, ← unhide HYE] at RE
        have HR := RowsT.of RE
        have hlb : z1.heap.size ≤ wz3.heap.size := (unhide hk).bel.size
        have hn : bz < wz3.heap.size := (unhide HA).lt
        generalize wz3.heap.size = Bz at HR hlb hn
        generalize wz4.heap.size = Tz at HR
        have HR := hide HR
        have HLB := hide hlb
        have HN : Hid (bz < Bz ∨ Tz ≤ bz) := Or.inl hn
        clear hlb RE hn
        have hk := hide ((unhide hk).call hb)
        have HA := hide ((unhide HA).call hb)
        clear hb
        refine hK.out _ _ (unhide hk) (fun hHeld => ?_)
        clear hK K
        try simp only [Act.put, List.setIfInBounds_toArray, List.set_cons_zero, List.set_cons_succ]
        refine wpAnyH_take (i := 8) (oi := { dst := some 50, op := Op.move (Operand.tmp 58), type := 58, pos := "exact.go:2901", after := #[{ on := 7, ground := Ground.data }], guard := none }) (v := ?_) rfl (by kernel_rfl) (by kernel_rfl) (by kernel_rfl) (fun _ _ _ h => h) (Or.inl ⟨by rfl, ?_⟩) (by assumption) ?_
        rotate_left
        · (intro w hSw; (try dsimp only at hSw); go_simp; try with_reducible rfl)
        try simp only [Act.put, List.setIfInBounds_toArray, List.set_cons_zero, List.set_cons_succ]
        refine wpAnyH_take (i := 9) (oi := { dst := some 59, op := Op.extract (Operand.tmp 50) 0, type := 51, pos := "exact.go:2901", after := #[{ on := 8, ground := Ground.data }], guard := none }) (v := ?_) rfl (by kernel_rfl) (by kernel_rfl) (by kernel_rfl) (fun _ _ _ h => h) (Or.inl ⟨by rfl, ?_⟩) (by assumption) ?_
        rotate_left
        · (intro w hSw; (try dsimp only at hSw); go_simp; try with_reducible rfl)
        try simp only [Act.put, List.setIfInBounds_toArray, List.set_cons_zero, List.set_cons_succ]
        refine wpAnyH_take (i := 10) (oi := { dst := some 60, op := Op.extract (Operand.tmp 50) 1, type := 2, pos := "exact.go:2901", after := #[{ on := 8, ground := Ground.data }, { on := 12, ground := Ground.gcOnly Departure.lateStores }], guard := none }) (v := ?_) rfl (by kernel_rfl) (by kernel_rfl) (by kernel_rfl) (fun _ _ _ h => h) (Or.inl ⟨by rfl, ?_⟩) (by assumption) ?_
        rotate_left
        · (intro w hSw; (try dsimp only at hSw); go_simp; try with_reducible rfl)
        try simp only [Act.put, List.setIfInBounds_toArray, List.set_cons_zero, List.set_cons_succ]
        refine wpAnyH_ready (rs := [12]) (by kernel_rfl) (by simp) ?_
        refine AllReadyH.cons (i := 12) (o := { dst := none, op := Op.store 51 (Operand.tmp 16) (Operand.tmp 59), type := 0, pos := "exact.go:2901", after := #[{ on := 11, ground := Ground.data }, { on := 9, ground := Ground.data }, { on := 7, ground := Ground.chain }, { on := 0, ground := Ground.phase }, { on := 1, ground := Ground.phase }, { on := 2, ground := Ground.phase }, { on := 3, ground := Ground.phase }, { on := 4, ground := Ground.phase }, { on := 5, ground := Ground.phase }, { on := 6, ground := Ground.phase }, { on := 7, ground := Ground.phase }, { on := 8, ground := Ground.phase }, { on := 9, ground := Ground.phase }, { on := 10, ground := Ground.textOnly Departure.lateStores }, { on := 11, ground := Ground.phase }], guard := none }) rfl (fun K hK => ?_) AllReadyH.nil
        obtain ⟨c0, c1_, c2_, cf⟩ := unhide HA
        have f0 := cf 0
        have f1 := cf 1
        have f2 := cf 2
        clear cf
        go_simp
        refine hK.out _ _ ?_ (fun hHeld => ?_)
        · exact GA.of ((((unhide hk).ba.set (unhide HP).1 (unhide HP).2.1 (unhide HP).2.2.1 (unhide HP).2.2.2 (unhide HLG) _).set (unhide HP).1 (unhide HP).2.1 (unhide HP).2.2.1 (unhide HP).2.2.2 (unhide HLG) _).set (unhide HP).1 (unhide HP).2.1 (unhide HP).2.2.1 (unhide HP).2.2.2 (unhide HLG) _)
        clear hK K c0 c1_ c2_ f0 f1 f2
        try simp only [Act.put, List.setIfInBounds_toArray, List.set_cons_zero, List.set_cons_succ]
        refine wpAnyH_take (i := 13) (oi := { dst := some 17, op := Op.assign (Operand.tmp 60), type := 2, pos := "exact.go:2901", after := #[{ on := 10, ground := Ground.data }, { on := 12, ground := Ground.chain }, { on := 0, ground := Ground.phase }, { on := 1, ground := Ground.phase }, { on := 2, ground := Ground.phase }, { on := 3, ground := Ground.phase }, { on := 4, ground := Ground.phase }, { on := 5, ground := Ground.phase }, { on := 6, ground := Ground.phase }, { on := 7, ground := Ground.phase }, { on := 8, ground := Ground.phase }, { on := 9, ground := Ground.phase }, { on := 10, ground := Ground.phase }, { on := 11, ground := Ground.phase }, { on := 12, ground := Ground.phase }], guard := none }) (v := ?_) rfl (by kernel_rfl) (by kernel_rfl) (by kernel_rfl) (fun _ _ _ h => h) (Or.inl ⟨by rfl, ?_⟩) (by assumption) ?_
        rotate_left
        · (intro w hSw; (try dsimp only at hSw); go_simp; try with_reducible rfl)
        try simp only [Act.put, List.setIfInBounds_toArray, List.set_cons_zero, List.set_cons_succ]
        refine wpAnyH_done (by kernel_rfl) ?_ _
        clear hHeld
        go_wp2_with fail
        go_meet
        exact ⟨bz, Bz, Tz, oa, ca, ob, cb, rfl, rfl, Ans.stored (unhide HA) (unhide HR) (unhide HN), unhide HLB, unhide HLG, bel_set (bel_set (bel_set (unhide hk).bel (unhide HLG)) (unhide HLG)) (unhide HLG)⟩
    · have HA := C3.new wz0 (.bool false) (.slice none 0 0) (.slice none 0 0) 51
      have hlg : z1.heap.size ≤ wz0.heap.size := (unhide hk).bel.size
      have ka := (Below.refl _ wz0).alloc (Nat.le_refl _) (Obj.cells #[.bool false, .slice none 0 0, .slice none 0 0] 51)
      have hk := hide ((unhide hk).call ka)
      clear ka
      go_simp
      refine hK.out _ _ (unhide hk) (fun hHeld => ?_)
      clear hK K
      try simp only [Act.put, List.setIfInBounds_toArray, List.set_cons_zero, List.set_cons_succ]
      clear hHeld
      generalize hg : wz0.alloc (Obj.cells #[.bool false, .slice none 0 0, .slice none 0 0] 51) = wz1 at HA hk  ⊢
      clear hg
      have hHeld := unhide hk
      generalize wz0.heap.size = bz at HA hlg ⊢
      have HA := hide HA
      have HLG := hide hlg
      clear hlg
      refine wpAnyH_ready (rs := [4]) (by kernel_rfl) (by simp) ?_
      refine AllReadyH.cons (i := 4) (o := { dst := some 55, op := Op.call { callee := Callee.value (Operand.func 23), args := #[Operand.tmp 54], argTypes := #[57] }, type := 60, pos := "exact.go:2901", after := #[{ on := 3, ground := Ground.data }], guard := none }) rfl (fun K hK => ?_) AllReadyH.nil
      go_simp
      refine (toInterval_c _ _ _).mono ?_
      rintro e wz2 ⟨rfl, hb⟩
      have hk := hide ((unhide hk).call hb)
      have HA := hide ((unhide HA).call hb)
      clear hb
      refine hK.out _ _ (unhide hk) (fun hHeld => ?_)
      clear hK K
      try simp only [Act.put, List.setIfInBounds_toArray, List.set_cons_zero, List.set_cons_succ]
      refine wpAnyH_ready (rs := [6]) (by kernel_rfl) (by simp) ?_
      refine AllReadyH.cons (i := 6) (o := { dst := some 57, op := Op.call { callee := Callee.value (Operand.func 23), args := #[Operand.tmp 56], argTypes := #[57] }, type := 60, pos := "exact.go:2901", after := #[{ on := 5, ground := Ground.data }, { on := 4, ground := Ground.chain }], guard := none }) rfl (fun K hK => ?_) AllReadyH.nil
      go_simp
      refine (toInterval_c _ _ _).mono ?_
      rintro e wz3 ⟨rfl, hb⟩
      have hk := hide ((unhide hk).call hb)
      have HA := hide ((unhide HA).call hb)
      clear hb
      refine hK.out _ _ (unhide hk) (fun hHeld => ?_)
      clear hK K
      try simp only [Act.put, List.setIfInBounds_toArray, List.set_cons_zero, List.set_cons_succ]
      refine wpAnyH_ready (rs := [7]) (by kernel_rfl) (by simp) ?_
      refine AllReadyH.cons (i := 7) (o := { dst := some 58, op := Op.call { callee := Callee.value (Operand.func 24), args := #[Operand.tmp 51, Operand.tmp 52, Operand.tmp 53, Operand.tmp 55, Operand.tmp 57], argTypes := #[35, 51, 2, 60, 60] }, type := 58, pos := "exact.go:2901", after := #[{ on := 0, ground := Ground.data }, { on := 1, ground := Ground.data }, { on := 2, ground := Ground.data }, { on := 4, ground := Ground.data }, { on := 6, ground := Ground.data }, { on := 6, ground := Ground.chain }], guard := none }) rfl (fun K hK => ?_) AllReadyH.nil
      go_simp
      refine (iEnvPut_c c1 c2 c3 _ _ _ vs fs rs li e1 e2 _ _ xs ys v pl ph al ah _ ((unhide HWU).call (unhide hk).bel) ((unhide HR1).call (unhide hk).bel).1 ((unhide HR2).call (unhide hk).bel).1 ((unhide HR3).call (unhide hk).bel).1 (unhide HZ) ((unhide HR4).call (unhide hk).bel).1 ((unhide HR5).call (unhide hk).bel).1).mono ?_
      rintro e wz4 ⟨oa, ca, ob, cb, rfl, RE, hb⟩
      rw [← unhide HOKE, ← unhide HXE, ← unhide HYE, ← unhide HAE]
      rw [← unhide HXE, ← unhide HYE] at RE
      have HR := RowsT.of RE
      have hlb : z1.heap.size ≤ wz3.heap.size := (unhide hk).bel.size
      have hn : bz < wz3.heap.size := (unhide HA).lt
      generalize wz3.heap.size = Bz at HR hlb hn
      generalize wz4.heap.size = Tz at HR
      have HR := hide HR
      have HLB := hide hlb
      have HN : Hid (bz < Bz ∨ Tz ≤ bz) := Or.inl hn
      clear hlb RE hn
      have hk := hide ((unhide hk).call hb)
      have HA := hide ((unhide HA).call hb)
      clear hb
      refine hK.out _ _ (unhide hk) (fun hHeld => ?_)
      clear hK K
      try simp only [Act.put, List.setIfInBounds_toArray, List.set_cons_zero, List.set_cons_succ]
      refine wpAnyH_take (i := 8) (oi := { dst := some 50, op := Op.move (Operand.tmp 58), type := 58, pos := "exact.go:2901", after := #[{ on := 7, ground := Ground.data }], guard := none }) (v := ?_) rfl (by kernel_rfl) (by kernel_rfl) (by kernel_rfl) (fun _ _ _ h => h) (Or.inl ⟨by rfl, ?_⟩) (by assumption) ?_
      rotate_left
      · (intro w hSw; (try dsimp only at hSw); go_simp; try with_reducible rfl)
      try simp only [Act.put, List.setIfInBounds_toArray, List.set_cons_zero, List.set_cons_succ]
      refine wpAnyH_take (i := 9) (oi := { dst := some 59, op := Op.extract (Operand.tmp 50) 0, type := 51, pos := "exact.go:2901", after := #[{ on := 8, ground := Ground.data }], guard := none }) (v := ?_) rfl (by kernel_rfl) (by kernel_rfl) (by kernel_rfl) (fun _ _ _ h => h) (Or.inl ⟨by rfl, ?_⟩) (by assumption) ?_
      rotate_left
      · (intro w hSw; (try dsimp only at hSw); go_simp; try with_reducible rfl)
      try simp only [Act.put, List.setIfInBounds_toArray, List.set_cons_zero, List.set_cons_succ]
      refine wpAnyH_take (i := 10) (oi := { dst := some 60, op := Op.extract (Operand.tmp 50) 1, type := 2, pos := "exact.go:2901", after := #[{ on := 8, ground := Ground.data }, { on := 12, ground := Ground.gcOnly Departure.lateStores }], guard := none }) (v := ?_) rfl (by kernel_rfl) (by kernel_rfl) (by kernel_rfl) (fun _ _ _ h => h) (Or.inl ⟨by rfl, ?_⟩) (by assumption) ?_
      rotate_left
      · (intro w hSw; (try dsimp only at hSw); go_simp; try with_reducible rfl)
      try simp only [Act.put, List.setIfInBounds_toArray, List.set_cons_zero, List.set_cons_succ]
      refine wpAnyH_ready (rs := [12]) (by kernel_rfl) (by simp) ?_
      refine AllReadyH.cons (i := 12) (o := { dst := none, op := Op.store 51 (Operand.tmp 16) (Operand.tmp 59), type := 0, pos := "exact.go:2901", after := #[{ on := 11, ground := Ground.data }, { on := 9, ground := Ground.data }, { on := 7, ground := Ground.chain }, { on := 0, ground := Ground.phase }, { on := 1, ground := Ground.phase }, { on := 2, ground := Ground.phase }, { on := 3, ground := Ground.phase }, { on := 4, ground := Ground.phase }, { on := 5, ground := Ground.phase }, { on := 6, ground := Ground.phase }, { on := 7, ground := Ground.phase }, { on := 8, ground := Ground.phase }, { on := 9, ground := Ground.phase }, { on := 10, ground := Ground.textOnly Departure.lateStores }, { on := 11, ground := Ground.phase }], guard := none }) rfl (fun K hK => ?_) AllReadyH.nil
      obtain ⟨c0, c1_, c2_, cf⟩ := unhide HA
      have f0 := cf 0
      have f1 := cf 1
      have f2 := cf 2
      clear cf
      go_simp
      refine hK.out _ _ ?_ (fun hHeld => ?_)
      · exact GA.of ((((unhide hk).ba.set (unhide HP).1 (unhide HP).2.1 (unhide HP).2.2.1 (unhide HP).2.2.2 (unhide HLG) _).set (unhide HP).1 (unhide HP).2.1 (unhide HP).2.2.1 (unhide HP).2.2.2 (unhide HLG) _).set (unhide HP).1 (unhide HP).2.1 (unhide HP).2.2.1 (unhide HP).2.2.2 (unhide HLG) _)
      clear hK K c0 c1_ c2_ f0 f1 f2
      try simp only [Act.put, List.setIfInBounds_toArray, List.set_cons_zero, List.set_cons_succ]
      refine wpAnyH_take (i := 13) (oi := { dst := some 17, op := Op.assign (Operand.tmp 60), type := 2, pos := "exact.go:2901", after := #[{ on := 10, ground := Ground.data }, { on := 12, ground := Ground.chain }, { on := 0, ground := Ground.phase }, { on := 1, ground := Ground.phase }, { on := 2, ground := Ground.phase }, { on := 3, ground := Ground.phase }, { on := 4, ground := Ground.phase }, { on := 5, ground := Ground.phase }, { on := 6, ground := Ground.phase }, { on := 7, ground := Ground.phase }, { on := 8, ground := Ground.phase }, { on := 9, ground := Ground.phase }, { on := 10, ground := Ground.phase }, { on := 11, ground := Ground.phase }, { on := 12, ground := Ground.phase }], guard := none }) (v := ?_) rfl (by kernel_rfl) (by kernel_rfl) (by kernel_rfl) (fun _ _ _ h => h) (Or.inl ⟨by rfl, ?_⟩) (by assumption) ?_
      rotate_left
      · (intro w hSw; (try dsimp only at hSw); go_simp; try with_reducible rfl)
      try simp only [Act.put, List.setIfInBounds_toArray, List.set_cons_zero, List.set_cons_succ]
      refine wpAnyH_done (by kernel_rfl) ?_ _
      clear hHeld
      go_wp2_with fail
      go_meet
      exact ⟨bz, Bz, Tz, oa, ca, ob, cb, rfl, rfl, Ans.stored (unhide HA) (unhide HR) (unhide HN), unhide HLB, unhide HLG, bel_set (bel_set (bel_set (unhide hk).bel (unhide HLG)) (unhide HLG)) (unhide HLG)⟩
  case rest =>
  obtain ⟨g2, B2, T2, pa, pc, pb, pd, rfl, rfl, hans, lb2, lg2, hbel⟩ := hcut
  have HB := hide ((unhide HB).call hbel)
  have AN1 := hide ((unhide AN1).call hbel)
  have HR1 := hide ((unhide HR1).call hbel)
  have HR2 := hide ((unhide HR2).call hbel)
  have HR3 := hide ((unhide HR3).call hbel)
  have HA0 := hide ((unhide HA0).call hbel)
  have HR4 := hide ((unhide HR4).call hbel)
  have HR5 := hide ((unhide HR5).call hbel)
  have HA1 := hide ((unhide HA1).call hbel)
  have AN2 := hide hans
  have HIS : z1.heap.size ≤ wc.heap.size := hbel.size
  generalize z1.heap.size = hi at HHI lb2 lg2 HIS
  have HI2 : Hid (hi ≤ B2 ∧ hi ≤ g2 ∧ hi ≤ wc.heap.size) := ⟨lb2, lg2, HIS⟩
  clear hans hbel HS HP HWU lb2 lg2 HIS
  obtain ⟨s0, rfl⟩ : ∃ s : World, s = wc := ⟨_, rfl⟩
  have HSZ := hide (unhide HI2).2.2
  have a0 := (unhide AN2).1.1
  have a1 := (unhide AN2).1.2.1
  have a2 := (unhide AN2).1.2.2.1
  have b0 := (unhide AN1).1.1
  have b1 := (unhide AN1).1.2.1
  have b2 := (unhide AN1).1.2.2.1
  go_wp2_with fail
  refine (eqEnv_c ok _ _ _ _ _ _ _ _ X Y _ ((unhide AN2).2.1.1.ivs ⟨mX, mY⟩).1 ((unhide AN2).2.1.1.ivs ⟨mX, mY⟩).2 ((unhide AN1).2.1.1.ivs ⟨mX, mY⟩).1 ((unhide AN1).2.1.1.ivs ⟨mX, mY⟩).2).mono ?_
  rintro e s1 ⟨rfl, kb⟩
  clear a0 a1 a2 b0 b1 b2
  have HSZ := hide (Nat.le_trans (unhide HSZ) kb.size)
  have HB := hide ((unhide HB).call kb)
  have AN1 := hide ((unhide AN1).call kb)
  have HR1 := hide ((unhide HR1).call kb)
  have HR2 := hide ((unhide HR2).call kb)
  have HR3 := hide ((unhide HR3).call kb)
  have HA0 := hide ((unhide HA0).call kb)
  have HR4 := hide ((unhide HR4).call kb)
  have HR5 := hide ((unhide HR5).call kb)
  have HA1 := hide ((unhide HA1).call kb)
  have AN2 := hide ((unhide AN2).call kb)
  clear kb
  have hh := H6.of (unhide HA0) (unhide HB).1 (Below.refl _ s1)
  go_wp2
  go_region_held3 (H6 s1 X0 (w.heap.size) (.slice (some ⟨c1, 0, none⟩) vs.length vs.length) (.slice (some ⟨c2, 0, none⟩) fs.length fs.length) (.slice (some ⟨c3, 0, none⟩) rs.length rs.length) (.slice va vs.length vc) (.slice fa fs.length fc) (.slice ra rs.length rc))
    (first | exact H6.drew (by assumption) | exact hq | exact hq2)
    (first
      | (go_at_call 8; refine (toDecl_c va fa ra vc fc rc vs fs rs _ (((unhide SV).call (unhide HB).2.2.2.2).call hh.drew.below) (((unhide SF).call (unhide HB).2.2.2.2).call hh.drew.below) (((unhide SR).call (unhide HB).2.2.2.2).call hh.drew.below)).mono ?_; rintro e w1 ⟨q1, q2, q3, rfl, Q1, Q2, Q3, _, hb⟩; have hq := H6.call hb hh.drew)
      | (go_at_call 11; refine (eqDecl_c _ _ _ _ _ _ _ _ _ _ _ _ vs fs rs _ ((unhide HR1).call hq.below).1 ((unhide HR2).call hq.below).1 ((unhide HR3).call hq.below).1 Q1.1 Q2.1 Q3.1).mono ?_; rintro e s2 ⟨rfl, hb2⟩; have hq2 := H6.call hb2 hq))
  have kb := hq2.below
  clear hq hq2 hh hb hb2 Q1 Q2 Q3
  rename_i hHeld
  clear hHeld
  have HSZ := hide (Nat.le_trans (unhide HSZ) kb.size)
  have HB := hide ((unhide HB).call kb)
  have AN1 := hide ((unhide AN1).call kb)
  have HR1 := hide ((unhide HR1).call kb)
  have HR2 := hide ((unhide HR2).call kb)
  have HR3 := hide ((unhide HR3).call kb)
  have HA0 := hide ((unhide HA0).call kb)
  have HR4 := hide ((unhide HR4).call kb)
  have HR5 := hide ((unhide HR5).call kb)
  have HA1 := hide ((unhide HA1).call kb)
  have AN2 := hide ((unhide AN2).call kb)
  clear kb
  have hh := H6.of (unhide HA1) (unhide HB).2.1 (Below.refl _ s2)
  go_wp2
  go_region_held3 (H6 s2 X1 (w.heap.size + 1) (.bool li) (.slice (some ⟨e1, 0, none⟩) xs.length xs.length) (.slice (some ⟨e2, 0, none⟩) ys.length ys.length) (.bool li) (.slice xa xs.length xc) (.slice ya ys.length yc))
    (first | exact H6.drew (by assumption) | exact hq | exact hq2)
    (first
      | (go_at_call 18; refine (toEnv_c li xa ya xc yc xs ys _ (((unhide SX).call (unhide HB).2.2.2.2).call hh.drew.below) (((unhide SY).call (unhide HB).2.2.2.2).call hh.drew.below)).mono ?_; rintro e w1 ⟨q1, q2, rfl, Q1, Q2, _, hb⟩; have hq := H6.call hb hh.drew)
      | (go_at_call 21; refine (eqEnv_c li _ _ _ _ _ _ _ _ xs ys _ ((unhide HR4).call hq.below).1 ((unhide HR5).call hq.below).1 Q1.1 Q2.1).mono ?_; rintro e s3 ⟨rfl, hb2⟩; have hq2 := H6.call hb2 hq))
  have kb := hq2.below
  clear hq hq2 hh hb hb2 Q1 Q2
  rename_i hHeld
  clear hHeld
  have HSZ := hide (Nat.le_trans (unhide HSZ) kb.size)
  have HB := hide ((unhide HB).call kb)
  have AN1 := hide ((unhide AN1).call kb)
  have HR1 := hide ((unhide HR1).call kb)
  have HR2 := hide ((unhide HR2).call kb)
  have HR3 := hide ((unhide HR3).call kb)
  have HA0 := hide ((unhide HA0).call kb)
  have HR4 := hide ((unhide HR4).call kb)
  have HR5 := hide ((unhide HR5).call kb)
  have HA1 := hide ((unhide HA1).call kb)
  have AN2 := hide ((unhide AN2).call kb)
  clear kb
  have RW4 := hide ((unhide HR4).roww (unhide HHI).1 (show e1 < hi by have := (unhide HHI).2; omega))
  have RW5 := hide ((unhide HR5).roww (show mid ≤ e2 by have := unhide HHI; omega) (unhide HHI).2.2.1)
  have a0 := (unhide HA0).1
  have a1 := (unhide HA0).2.1
  have a2 := (unhide HA0).2.2.1
  go_wp2_with fail
  refine (markDecl_c c1 c2 c3 _ _ _ _ _ _ lo mid 1 (by omega) mv mf mr _ (show mid ≤ s3.heap.size by have := unhide HHI; have := unhide HSZ; omega) ⟨(unhide HMID).1, (unhide HMID).2.1, (unhide HMID).2.2.1, (unhide HMID).2.2.2.1⟩ (unhide HR1).wr (unhide HR2).wr (unhide HR3).wr).mono ?_
  rintro e s4 ⟨rfl, m4⟩
  clear a0 a1 a2
  have HB := hide ((unhide HB).mid m4 (by have := unhide HLO; omega) (by have := unhide HLO; omega) (by have := unhide HLO; omega) (by have := unhide HLO; omega) (by have := unhide HLO; omega))
  have AN1 := hide ((unhide AN1).mid m4 (.inl (unhide HLO).2.1) (.inr (unhide HLO).2.2.1))
  have HA1 := hide ((unhide HA1).mid m4 (.inr (unhide HHI).2.2.2.2))
  have AN2 := hide ((unhide AN2).mid m4 (.inr (by have := unhide HI2; have := unhide HHI; omega)) (.inl (by have := unhide HI2; have := unhide HHI; omega)))
  have RW4 := hide ((unhide RW4).mid m4 (.inr (Nat.le_refl _)))
  have RW5 := hide ((unhide RW5).mid m4 (.inr (Nat.le_refl _)))
  have HSZ := hide (Nat.le_trans (unhide HSZ) m4.size)
  clear m4 HR1 HR2 HR3 HR4 HR5 HA0
  have hk1 : 0 ≤ (1 : Int) + vs.length + fs.length + 2 * rs.length ∧ (1 : Int) + vs.length + fs.length + 2 * rs.length ≤ 10485760 := by omega
  generalize (1 : Int) + vs.length + fs.length + 2 * rs.length = k1 at hk1 ⊢
  have a0 := (unhide HA1).1
  have a1 := (unhide HA1).2.1
  have a2 := (unhide HA1).2.2.1
  go_wp2_with fail
  refine (markEnv_c li _ _ xs.length ys.length _ _ mid hi k1 (by omega) mx my _ (unhide HSZ) (unhide RW4) (unhide RW5) (fun x y hx hy e => by cases hx; cases hy; have : e1 = e2 := e; have := unhide HHI; omega) (fun x y hx hy e => by cases hx; cases hy; have : e2 = e1 := e; have := unhide HHI; omega)).mono ?_
  rintro e s5 ⟨rfl, _, _, m5⟩
  clear a0 a1 a2
  have HB := hide ((unhide HB).mid m5 (by have := unhide HLO; have := unhide HMID; omega) (by have := unhide HLO; have := unhide HMID; omega) (by have := unhide HLO; have := unhide HMID; omega) (by have := unhide HLO; have := unhide HMID; omega) (by have := unhide HLO; have := unhide HMID; omega))
  have AN1 := hide ((unhide AN1).mid m5 (.inl (by have := unhide HLO; have := unhide HMID; omega)) (.inr (by have := unhide HLO; have := unhide HMID; omega)))
  have AN2 := hide ((unhide AN2).mid m5 (.inr (unhide HI2).2.1) (.inl (unhide HI2).1))
  have HSZ := hide (Nat.le_trans (unhide HSZ) m5.size)
  clear m5 HA1 RW4 RW5
  have hk2 : 0 ≤ k1 + 2 * (xs.length : Int) + 2 * ys.length := by omega
  generalize k1 + 2 * (xs.length : Int) + 2 * ys.length = k2 at hk2 ⊢
  clear hk1
  have a0 := (unhide AN2).1.1
  have a1 := (unhide AN2).1.2.1
  have a2 := (unhide AN2).1.2.2.1
  have b0 := (unhide AN1).1.1
  have b1 := (unhide AN1).1.2.1
  have b2 := (unhide AN1).1.2.2.1
  go_wp2_with fail
  refine (eqEnv_c ok _ _ _ _ _ _ _ _ X Y _ ((unhide AN2).2.1.1.ivs ⟨mX, mY⟩).1 ((unhide AN2).2.1.1.ivs ⟨mX, mY⟩).2 ((unhide AN1).2.1.1.ivs ⟨mX, mY⟩).1 ((unhide AN1).2.1.1.ivs ⟨mX, mY⟩).2).mono ?_
  rintro e s6 ⟨rfl, kb⟩
  clear a0 a1 a2 b0 b1 b2
  have HSZ := hide (Nat.le_trans (unhide HSZ) kb.size)
  have HB := hide ((unhide HB).call kb)
  have AN1 := hide ((unhide AN1).call kb)
  have AN2 := hide ((unhide AN2).call kb)
  clear kb
  have a0 := (unhide AN2).1.1
  have a1 := (unhide AN2).1.2.1
  have a2 := (unhide AN2).1.2.2.1
  go_wp2_with fail
  refine (markEnv_c ok _ _ X.length Y.length _ _ B2 T2 1 (by omega) mX mY _ (unhide AN2).2.1.2.2.2 (unhide AN2).2.1.roww.1 (unhide AN2).2.1.roww.2 (unhide AN2).2.1.1.2.2 (unhide AN2).2.1.1.2.2.symm).mono ?_
  rintro e s7 ⟨rfl, mk1, mk2, m7⟩
  clear a0 a1 a2
  have HB := hide ((unhide HB).mid m7 (by have := unhide HLO; have := unhide HMID; have := unhide HHI; have := unhide HI2; omega) (by have := unhide HLO; have := unhide HMID; have := unhide HHI; have := unhide HI2; omega) (by have := unhide HLO; have := unhide HMID; have := unhide HHI; have := unhide HI2; omega) (by have := unhide HLO; have := unhide HMID; have := unhide HHI; have := unhide HI2; omega) (by have := unhide HLO; have := unhide HMID; have := unhide HHI; have := unhide HI2; omega))
  have AN1 := hide ((unhide AN1).mid m7 (.inl (by have := unhide HLO; have := unhide HMID; have := unhide HHI; have := unhide HI2; omega)) (.inr (by have := unhide HLO; have := unhide HMID; have := unhide HHI; have := unhide HI2; omega)))
  have C2 := hide ((unhide AN2).1.mid m7 (unhide AN2).2.2)
  have MK1 := hide mk1
  have MK2 := hide mk2
  clear m7 mk1 mk2 AN2 HSZ
  have a0 := (unhide C2).1
  have a1 := (unhide C2).2.1
  have a2 := (unhide C2).2.2.1
  go_wp2_with fail
  refine (heldEnv_c ok _ _ X.length Y.length _ _ B2 T2 1 (by omega) mX mY _ (unhide MK1) (unhide MK2)).mono ?_
  rintro e s8 ⟨rfl, kb⟩
  clear a0 a1 a2
  have HB := hide ((unhide HB).call kb)
  have AN1 := hide ((unhide AN1).call kb)
  have C2 := hide ((unhide C2).call kb)
  have MK1 := hide ((unhide MK1).call kb)
  have MK2 := hide ((unhide MK2).call kb)
  clear kb
  have hk3 : 0 ≤ (1 : Int) + 2 * (X.length : Int) + 2 * Y.length := by omega
  obtain ⟨k3, HK3⟩ : ∃ k, Hid ((1 : Int) + 2 * (X.length : Int) + 2 * Y.length = k) := ⟨_, rfl⟩
  rw [HK3.out] at hk3 ⊢
  have hk4 : (k3 != k3) = false := by simp
  have HS : Hid (BA s8 w.heap.size (w.heap.size + 1) (w.heap.size + 2) (w.heap.size + 3) (.slice va vs.length vc) (.slice fa fs.length fc) (.slice ra rs.length rc) (.bool li) (.slice xa xs.length xc) (.slice ya ys.length yc) (.int .i64 pl) (.int .i64 ph) (.int .i64 al) (.int .i64 ah) s8) := ⟨(unhide HB).1, (unhide HB).2.1, (unhide HB).2.2.1, (unhide HB).2.2.2.1, Below.refl _ _⟩
  have HP : Hid (w.heap.size < s8.heap.size ∧ w.heap.size + 1 < s8.heap.size ∧ w.heap.size + 2 < s8.heap.size ∧ w.heap.size + 3 < s8.heap.size) := ⟨(unhide HB).1.lt, (unhide HB).2.1.lt, World.block_lt_of_cell? _ _ (unhide HB).2.2.1.1, World.block_lt_of_cell? _ _ (unhide HB).2.2.2.1.1⟩
  have SVU := hide ((unhide SV).call (unhide HB).2.2.2.2)
  have SFU := hide ((unhide SF).call (unhide HB).2.2.2.2)
  have SRU := hide ((unhide SR).call (unhide HB).2.2.2.2)
  have SXU := hide ((unhide SX).call (unhide HB).2.2.2.2)
  have SYU := hide ((unhide SY).call (unhide HB).2.2.2.2)
  have HWU := hide ((unhide HW).call (unhide HB).2.2.2.2)
  go_upto_region 31 with fail
  go_cut [21, 22] (fun q a wc => ∃ g B T oa ca ob cb, q = .pointer (some ⟨g, 0, none⟩) ∧ a = .int .i64 A ∧ Ans g B T ok oa ca ob cb X Y wc ∧ s8.heap.size ≤ B ∧ s8.heap.size ≤ g ∧ Below s8.heap.size s8 wc)
  case first =>
    have hk := hide (GA.drew (GA.of (unhide HS)))
    obtain ⟨wz0, hw0⟩ : ∃ x, x = s8.drew := ⟨_, rfl⟩
    rw [← hw0] at hk
    refine wp_region_held_drew (S := (GA s8 (w.heap.size) (w.heap.size + 1) (w.heap.size + 2) (w.heap.size + 3) (.slice va vs.length vc) (.slice fa fs.length fc) (.slice ra rs.length rc) (.bool li) (.slice xa xs.length xc) (.slice ya ys.length yc) (.int .i64 pl) (.int .i64 ph) (.int .i64 al) (.int .i64 ah))) (by kernel_rfl) (by rw [← hw0]; exact unhide hk) (fun hHeld => ?_)
    rw [← hw0] at hHeld ⊢
    clear hw0
    refine wpAnyH_take (i := 0) (oi := { dst := some 111, op := Op.load 25 (Operand.tmp 5), type := 25, pos := "exact.go:2927", after := #[], guard := none }) (v := ?_) rfl (by kernel_rfl) (by kernel_rfl) (by kernel_rfl) (fun _ _ _ h => h) (Or.inl ⟨by rfl, ?_⟩) (by assumption) ?_
    rotate_left
    · (intro w hSw; (try dsimp only at hSw); go_simp; try with_reducible rfl)
    try simp only [Act.put, List.setIfInBounds_toArray, List.set_cons_zero, List.set_cons_succ]
    refine wpAnyH_take (i := 2) (oi := { dst := some 113, op := Op.load 44 (Operand.tmp 6), type := 44, pos := "exact.go:2927", after := #[], guard := none }) (v := ?_) rfl (by kernel_rfl) (by kernel_rfl) (by kernel_rfl) (fun _ _ _ h => h) (Or.inl ⟨by rfl, ?_⟩) (by assumption) ?_
    rotate_left
    · (intro w hSw; (try dsimp only at hSw); go_simp; try with_reducible rfl)
    try simp only [Act.put, List.setIfInBounds_toArray, List.set_cons_zero, List.set_cons_succ]
    refine wpAnyH_take (i := 4) (oi := { dst := some 115, op := Op.move (Operand.tmp 2), type := 2, pos := "exact.go:2927", after := #[], guard := none }) (v := ?_) rfl (by kernel_rfl) (by kernel_rfl) (by kernel_rfl) (fun _ _ _ h => h) (Or.inl ⟨by rfl, ?_⟩) (by assumption) ?_
    rotate_left
    · (intro w hSw; (try dsimp only at hSw); go_simp; try with_reducible rfl)
    try simp only [Act.put, List.setIfInBounds_toArray, List.set_cons_zero, List.set_cons_succ]
    refine wpAnyH_take (i := 5) (oi := { dst := some 116, op := Op.load 57 (Operand.tmp 8), type := 57, pos := "exact.go:2927", after := #[], guard := none }) (v := ?_) rfl (by kernel_rfl) (by kernel_rfl) (by kernel_rfl) (fun _ _ _ h => h) (Or.inl ⟨by rfl, ?_⟩) (by assumption) ?_
    rotate_left
    · (intro w hSw; (try dsimp only at hSw); go_simp; try with_reducible rfl)
    try simp only [Act.put, List.setIfInBounds_toArray, List.set_cons_zero, List.set_cons_succ]
    refine wpAnyH_take (i := 7) (oi := { dst := some 118, op := Op.load 57 (Operand.tmp 9), type := 57, pos := "exact.go:2927", after := #[], guard := none }) (v := ?_) rfl (by kernel_rfl) (by kernel_rfl) (by kernel_rfl) (fun _ _ _ h => h) (Or.inl ⟨by rfl, ?_⟩) (by assumption) ?_
    rotate_left
    · (intro w hSw; (try dsimp only at hSw); go_simp; try with_reducible rfl)
    try simp only [Act.put, List.setIfInBounds_toArray, List.set_cons_zero, List.set_cons_succ]
    refine wpAnyH_ready (rs := [1, 13]) (by kernel_rfl) (by simp) ?_
    refine AllReadyH.cons (i := 1) (o := { dst := some 112, op := Op.call { callee := Callee.value (Operand.func 8), args := #[Operand.tmp 111], argTypes := #[25] }, type := 35, pos := "exact.go:2927", after := #[{ on := 0, ground := Ground.data }], guard := none }) rfl (fun K hK => ?_) (AllReadyH.cons (i := 13) (o := { dst := some 21, op := Op.alloc 51, type := 0, pos := "exact.go:2927", after := #[], guard := none }) rfl (fun K hK => ?_) AllReadyH.nil)
    · go_simp
      refine (toDecl_c va fa ra vc fc rc vs fs rs _ ((unhide SVU).call (unhide hk).bel) ((unhide SFU).call (unhide hk).bel) ((unhide SRU).call (unhide hk).bel)).mono ?_
      rintro e wz1 ⟨b1, b2, b3, rfl, Q1, Q2, Q3, _, hb⟩
      have hk := hide ((unhide hk).call hb)
      clear hb
      have HQ1 := hide Q1
      clear Q1
      have HQ2 := hide Q2
      clear Q2
      have HQ3 := hide Q3
      clear Q3
      refine hK.out _ _ (unhide hk) (fun hHeld => ?_)
      clear hK K
      try simp only [Act.put, List.setIfInBounds_toArray, List.set_cons_zero, List.set_cons_succ]
      refine wpAnyH_ready (rs := [3, 13]) (by kernel_rfl) (by simp) ?_
      refine AllReadyH.cons (i := 3) (o := { dst := some 114, op := Op.call { callee := Callee.value (Operand.func 18), args := #[Operand.tmp 113], argTypes := #[44] }, type := 51, pos := "exact.go:2927", after := #[{ on := 2, ground := Ground.data }, { on := 1, ground := Ground.chain }], guard := none }) rfl (fun K hK => ?_) (AllReadyH.cons (i := 13) (o := { dst := some 21, op := Op.alloc 51, type := 0, pos := "exact.go:2927", after := #[], guard := none }) rfl (fun K hK => ?_) AllReadyH.nil)
      · go_simp
        refine (toEnv_c li xa ya xc yc xs ys _ ((unhide SXU).call (unhide hk).bel) ((unhide SYU).call (unhide hk).bel)).mono ?_
        rintro e wz2 ⟨d1, d2, rfl, Q4, Q5, _, hb⟩
        have hk := hide ((unhide hk).call hb)
        have HQ1 := hide ((unhide HQ1).call hb)
        have HQ2 := hide ((unhide HQ2).call hb)
        have HQ3 := hide ((unhide HQ3).call hb)
        clear hb
        have HQ4 := hide Q4
        clear Q4
        have HQ5 := hide Q5
        clear Q5
        refine hK.out _ _ (unhide hk) (fun hHeld => ?_)
        clear hK K
        try simp only [Act.put, List.setIfInBounds_toArray, List.set_cons_zero, List.set_cons_succ]
        refine wpAnyH_ready (rs := [6, 13]) (by kernel_rfl) (by simp) ?_
        refine AllReadyH.cons (i := 6) (o := { dst := some 117, op := Op.call { callee := Callee.value (Operand.func 23), args := #[Operand.tmp 116], argTypes := #[57] }, type := 60, pos := "exact.go:2927", after := #[{ on := 5, ground := Ground.data }, { on := 3, ground := Ground.chain }], guard := none }) rfl (fun K hK => ?_) (AllReadyH.cons (i := 13) (o := { dst := some 21, op := Op.alloc 51, type := 0, pos := "exact.go:2927", after := #[], guard := none }) rfl (fun K hK => ?_) AllReadyH.nil)
        · go_simp
          refine (toInterval_c _ _ _).mono ?_
          rintro e wz3 ⟨rfl, hb⟩
          have hk := hide ((unhide hk).call hb)
          have HQ1 := hide ((unhide HQ1).call hb)
          have HQ2 := hide ((unhide HQ2).call hb)
          have HQ3 := hide ((unhide HQ3).call hb)
          have HQ4 := hide ((unhide HQ4).call hb)
          have HQ5 := hide ((unhide HQ5).call hb)
          clear hb
          refine hK.out _ _ (unhide hk) (fun hHeld => ?_)
          clear hK K
          try simp only [Act.put, List.setIfInBounds_toArray, List.set_cons_zero, List.set_cons_succ]
          refine wpAnyH_ready (rs := [8, 13]) (by kernel_rfl) (by simp) ?_
          refine AllReadyH.cons (i := 8) (o := { dst := some 119, op := Op.call { callee := Callee.value (Operand.func 23), args := #[Operand.tmp 118], argTypes := #[57] }, type := 60, pos := "exact.go:2927", after := #[{ on := 7, ground := Ground.data }, { on := 6, ground := Ground.chain }], guard := none }) rfl (fun K hK => ?_) (AllReadyH.cons (i := 13) (o := { dst := some 21, op := Op.alloc 51, type := 0, pos := "exact.go:2927", after := #[], guard := none }) rfl (fun K hK => ?_) AllReadyH.nil)
          · go_simp
            refine (toInterval_c _ _ _).mono ?_
            rintro e wz4 ⟨rfl, hb⟩
            have hk := hide ((unhide hk).call hb)
            have HQ1 := hide ((unhide HQ1).call hb)
            have HQ2 := hide ((unhide HQ2).call hb)
            have HQ3 := hide ((unhide HQ3).call hb)
            have HQ4 := hide ((unhide HQ4).call hb)
            have HQ5 := hide ((unhide HQ5).call hb)
            clear hb
            refine hK.out _ _ (unhide hk) (fun hHeld => ?_)
            clear hK K
            try simp only [Act.put, List.setIfInBounds_toArray, List.set_cons_zero, List.set_cons_succ]
            refine wpAnyH_ready (rs := [9, 13]) (by kernel_rfl) (by simp) ?_
            refine AllReadyH.cons (i := 9) (o := { dst := some 120, op := Op.call { callee := Callee.value (Operand.func 24), args := #[Operand.tmp 112, Operand.tmp 114, Operand.tmp 115, Operand.tmp 117, Operand.tmp 119], argTypes := #[35, 51, 2, 60, 60] }, type := 58, pos := "exact.go:2927", after := #[{ on := 1, ground := Ground.data }, { on := 3, ground := Ground.data }, { on := 4, ground := Ground.data }, { on := 6, ground := Ground.data }, { on := 8, ground := Ground.data }, { on := 8, ground := Ground.chain }], guard := none }) rfl (fun K hK => ?_) (AllReadyH.cons (i := 13) (o := { dst := some 21, op := Op.alloc 51, type := 0, pos := "exact.go:2927", after := #[], guard := none }) rfl (fun K hK => ?_) AllReadyH.nil)
            · go_simp
              refine (iEnvPut_c b1 b2 b3 _ _ _ vs fs rs li d1 d2 _ _ xs ys v pl ph al ah _ ((unhide HWU).call (unhide hk).bel) (unhide HQ1).1 (unhide HQ2).1 (unhide HQ3).1 (unhide HZ) (unhide HQ4).1 (unhide HQ5).1).mono ?_
              rintro e wz5 ⟨oa, ca, ob, cb, rfl, RE, hb⟩
              rw [← unhide HOKE, ← unhide HXE, ← unhide HYE, ← unhide HAE]
              rw [← unhide HXE, ← unhide HYE] at RE
              have HR := RowsT.of RE
              have hlb : s8.heap.size ≤ wz4.heap.size := (unhide hk).bel.size
              generalize wz4.heap.size = Bz at HR hlb
              generalize wz5.heap.size = Tz at HR
              have HR := hide HR
              have HLB := hide hlb
              clear hlb RE
              have hk := hide ((unhide hk).call hb)
              have HQ1 := hide ((unhide HQ1).call hb)
              have HQ2 := hide ((unhide HQ2).call hb)
              have HQ3 := hide ((unhide HQ3).call hb)
              have HQ4 := hide ((unhide HQ4).call hb)
              have HQ5 := hide ((unhide HQ5).call hb)
              clear hb
              refine hK.out _ _ (unhide hk) (fun hHeld => ?_)
              clear hK K
              try simp only [Act.put, List.setIfInBounds_toArray, List.set_cons_zero, List.set_cons_succ]
              refine wpAnyH_take (i := 10) (oi := { dst := some 110, op := Op.move (Operand.tmp 120), type := 58, pos := "exact.go:2927", after := #[{ on := 9, ground := Ground.data }], guard := none }) (v := ?_) rfl (by kernel_rfl) (by kernel_rfl) (by kernel_rfl) (fun _ _ _ h => h) (Or.inl ⟨by rfl, ?_⟩) (by assumption) ?_
              rotate_left
              · (intro w hSw; (try dsimp only at hSw); go_simp; try with_reducible rfl)
              try simp only [Act.put, List.setIfInBounds_toArray, List.set_cons_zero, List.set_cons_succ]
              refine wpAnyH_take (i := 11) (oi := { dst := some 121, op := Op.extract (Operand.tmp 110) 0, type := 51, pos := "exact.go:2927", after := #[{ on := 10, ground := Ground.data }], guard := none }) (v := ?_) rfl (by kernel_rfl) (by kernel_rfl) (by kernel_rfl) (fun _ _ _ h => h) (Or.inl ⟨by rfl, ?_⟩) (by assumption) ?_
              rotate_left
              · (intro w hSw; (try dsimp only at hSw); go_simp; try with_reducible rfl)
              try simp only [Act.put, List.setIfInBounds_toArray, List.set_cons_zero, List.set_cons_succ]
              refine wpAnyH_take (i := 12) (oi := { dst := some 122, op := Op.extract (Operand.tmp 110) 1, type := 2, pos := "exact.go:2927", after := #[{ on := 10, ground := Ground.data }, { on := 14, ground := Ground.gcOnly Departure.lateStores }], guard := none }) (v := ?_) rfl (by kernel_rfl) (by kernel_rfl) (by kernel_rfl) (fun _ _ _ h => h) (Or.inl ⟨by rfl, ?_⟩) (by assumption) ?_
              rotate_left
              · (intro w hSw; (try dsimp only at hSw); go_simp; try with_reducible rfl)
              try simp only [Act.put, List.setIfInBounds_toArray, List.set_cons_zero, List.set_cons_succ]
              refine wpAnyH_ready (rs := [13]) (by kernel_rfl) (by simp) ?_
              refine AllReadyH.cons (i := 13) (o := { dst := some 21, op := Op.alloc 51, type := 0, pos := "exact.go:2927", after := #[], guard := none }) rfl (fun K hK => ?_) AllReadyH.nil
              have HA := C3.new wz5 (.bool false) (.slice none 0 0) (.slice none 0 0) 51
              have hlg : s8.heap.size ≤ wz5.heap.size := (unhide hk).bel.size
              have hn : Tz ≤ wz5.heap.size := (unhide HR).2.2.2
              have ka := (Below.refl _ wz5).alloc (Nat.le_refl _) (Obj.cells #[.bool false, .slice none 0 0, .slice none 0 0] 51)
              have hk := hide ((unhide hk).call ka)
              have HQ1 := hide ((unhide HQ1).call ka)
              have HQ2 := hide ((unhide HQ2).call ka)
              have HQ3 := hide ((unhide HQ3).call ka)
              have HQ4 := hide ((unhide HQ4).call ka)
              have HQ5 := hide ((unhide HQ5).call ka)
              have HR := hide ((unhide HR).call ka)
              clear ka
              go_simp
              refine hK.out _ _ (unhide hk) (fun hHeld => ?_)
              clear hK K
              try simp only [Act.put, List.setIfInBounds_toArray, List.set_cons_zero, List.set_cons_succ]
              clear hHeld
              generalize hg : wz5.alloc (Obj.cells #[.bool false, .slice none 0 0, .slice none 0 0] 51) = wz6 at HA hk HQ1 HQ2 HQ3 HQ4 HQ5 HR ⊢
              clear hg
              have hHeld := unhide hk
              generalize wz5.heap.size = bz at HA hlg hn ⊢
              have HA := hide HA
              have HLG := hide hlg
              have HN : Hid (bz < Bz ∨ Tz ≤ bz) := Or.inr hn
              clear hlg hn
              refine wpAnyH_ready (rs := [14]) (by kernel_rfl) (by simp) ?_
              refine AllReadyH.cons (i := 14) (o := { dst := none, op := Op.store 51 (Operand.tmp 21) (Operand.tmp 121), type := 0, pos := "exact.go:2927", after := #[{ on := 13, ground := Ground.data }, { on := 11, ground := Ground.data }, { on := 9, ground := Ground.chain }, { on := 0, ground := Ground.phase }, { on := 1, ground := Ground.phase }, { on := 2, ground := Ground.phase }, { on := 3, ground := Ground.phase }, { on := 4, ground := Ground.phase }, { on := 5, ground := Ground.phase }, { on := 6, ground := Ground.phase }, { on := 7, ground := Ground.phase }, { on := 8, ground := Ground.phase }, { on := 9, ground := Ground.phase }, { on := 10, ground := Ground.phase }, { on := 11, ground := Ground.phase }, { on := 12, ground := Ground.textOnly Departure.lateStores }, { on := 13, ground := Ground.phase }], guard := none }) rfl (fun K hK => ?_) AllReadyH.nil
              obtain ⟨c0, c1_, c2_, cf⟩ := unhide HA
              have f0 := cf 0
              have f1 := cf 1
              have f2 := cf 2
              clear cf
              go_simp
              refine hK.out _ _ ?_ (fun hHeld => ?_)
              · exact GA.of ((((unhide hk).ba.set (unhide HP).1 (unhide HP).2.1 (unhide HP).2.2.1 (unhide HP).2.2.2 (unhide HLG) _).set (unhide HP).1 (unhide HP).2.1 (unhide HP).2.2.1 (unhide HP).2.2.2 (unhide HLG) _).set (unhide HP).1 (unhide HP).2.1 (unhide HP).2.2.1 (unhide HP).2.2.2 (unhide HLG) _)
              clear hK K c0 c1_ c2_ f0 f1 f2
              try simp only [Act.put, List.setIfInBounds_toArray, List.set_cons_zero, List.set_cons_succ]
              refine wpAnyH_take (i := 15) (oi := { dst := some 22, op := Op.assign (Operand.tmp 122), type := 2, pos := "exact.go:2927", after := #[{ on := 12, ground := Ground.data }, { on := 14, ground := Ground.chain }, { on := 0, ground := Ground.phase }, { on := 1, ground := Ground.phase }, { on := 2, ground := Ground.phase }, { on := 3, ground := Ground.phase }, { on := 4, ground := Ground.phase }, { on := 5, ground := Ground.phase }, { on := 6, ground := Ground.phase }, { on := 7, ground := Ground.phase }, { on := 8, ground := Ground.phase }, { on := 9, ground := Ground.phase }, { on := 10, ground := Ground.phase }, { on := 11, ground := Ground.phase }, { on := 12, ground := Ground.phase }, { on := 13, ground := Ground.phase }, { on := 14, ground := Ground.phase }], guard := none }) (v := ?_) rfl (by kernel_rfl) (by kernel_rfl) (by kernel_rfl) (fun _ _ _ h => h) (Or.inl ⟨by rfl, ?_⟩) (by assumption) ?_
              rotate_left
              · (intro w hSw; (try dsimp only at hSw); go_simp; try with_reducible rfl)
              try simp only [Act.put, List.setIfInBounds_toArray, List.set_cons_zero, List.set_cons_succ]
              refine wpAnyH_done (by kernel_rfl) ?_ _
              clear hHeld
              go_wp2_with fail
              go_meet
              exact ⟨bz, Bz, Tz, oa, ca, ob, cb, rfl, rfl, Ans.stored (unhide HA) (unhide HR) (unhide HN), unhide HLB, unhide HLG, bel_set (bel_set (bel_set (unhide hk).bel (unhide HLG)) (unhide HLG)) (unhide HLG)⟩
            · have HA := C3.new wz4 (.bool false) (.slice none 0 0) (.slice none 0 0) 51
              have hlg : s8.heap.size ≤ wz4.heap.size := (unhide hk).bel.size
              have ka := (Below.refl _ wz4).alloc (Nat.le_refl _) (Obj.cells #[.bool false, .slice none 0 0, .slice none 0 0] 51)
              have hk := hide ((unhide hk).call ka)
              have HQ1 := hide ((unhide HQ1).call ka)
              have HQ2 := hide ((unhide HQ2).call ka)
              have HQ3 := hide ((unhide HQ3).call ka)
              have HQ4 := hide ((unhide HQ4).call ka)
              have HQ5 := hide ((unhide HQ5).call ka)
              clear ka
              go_simp
              refine hK.out _ _ (unhide hk) (fun hHeld => ?_)
              clear hK K
              try simp only [Act.put, List.setIfInBounds_toArray, List.set_cons_zero, List.set_cons_succ]
              clear hHeld
              generalize hg : wz4.alloc (Obj.cells #[.bool false, .slice none 0 0, .slice none 0 0] 51) = wz5 at HA hk HQ1 HQ2 HQ3 HQ4 HQ5 ⊢
              clear hg
              have hHeld := unhide hk
              generalize wz4.heap.size = bz at HA hlg ⊢
              have HA := hide HA
              have HLG := hide hlg
              clear hlg
              refine wpAnyH_ready (rs := [9]) (by kernel_rfl) (by simp) ?_
              refine AllReadyH.cons (i := 9) (o := { dst := some 120, op := Op.call { callee := Callee.value (Operand.func 24), args := #[Operand.tmp 112, Operand.tmp 114, Operand.tmp 115, Operand.tmp 117, Operand.tmp 119], argTypes := #[35, 51, 2, 60, 60] }, type := 58, pos := "exact.go:2927", after := #[{ on := 1, ground := Ground.data }, { on := 3, ground := Ground.data }, { on := 4, ground := Ground.data }, { on := 6, ground := Ground.data }, { on := 8, ground := Ground.data }, { on := 8, ground := Ground.chain }], guard := none }) rfl (fun K hK => ?_) AllReadyH.nil
              go_simp
              refine (iEnvPut_c b1 b2 b3 _ _ _ vs fs rs li d1 d2 _ _ xs ys v pl ph al ah _ ((unhide HWU).call (unhide hk).bel) (unhide HQ1).1 (unhide HQ2).1 (unhide HQ3).1 (unhide HZ) (unhide HQ4).1 (unhide HQ5).1).mono ?_
              rintro e wz6 ⟨oa, ca, ob, cb, rfl, RE, hb⟩
              rw [← unhide HOKE, ← unhide HXE, ← unhide HYE, ← unhide HAE]
              rw [← unhide HXE, ← unhide HYE] at RE
              have HR := RowsT.of RE
              have hlb : s8.heap.size ≤ wz5.heap.size := (unhide hk).bel.size
              have hn : bz < wz5.heap.size := (unhide HA).lt
              generalize wz5.heap.size = Bz at HR hlb hn
              generalize wz6.heap.size = Tz at HR
              have HR := hide HR
              have HLB := hide hlb
              have HN : Hid (bz < Bz ∨ Tz ≤ bz) := Or.inl hn
              clear hlb RE hn
              have hk := hide ((unhide hk).call hb)
              have HQ1 := hide ((unhide HQ1).call hb)
              have HQ2 := hide ((unhide HQ2).call hb)
              have HQ3 := hide ((unhide HQ3).call hb)
              have HQ4 := hide ((unhide HQ4).call hb)
              have HQ5 := hide ((unhide HQ5).call hb)
              have HA := hide ((unhide HA).call hb)
              clear hb
              refine hK.out _ _ (unhide hk) (fun hHeld => ?_)
              clear hK K
              try simp only [Act.put, List.setIfInBounds_toArray, List.set_cons_zero, List.set_cons_succ]
              refine wpAnyH_take (i := 10) (oi := { dst := some 110, op := Op.move (Operand.tmp 120), type := 58, pos := "exact.go:2927", after := #[{ on := 9, ground := Ground.data }], guard := none }) (v := ?_) rfl (by kernel_rfl) (by kernel_rfl) (by kernel_rfl) (fun _ _ _ h => h) (Or.inl ⟨by rfl, ?_⟩) (by assumption) ?_
              rotate_left
              · (intro w hSw; (try dsimp only at hSw); go_simp; try with_reducible rfl)
              try simp only [Act.put, List.setIfInBounds_toArray, List.set_cons_zero, List.set_cons_succ]
              refine wpAnyH_take (i := 11) (oi := { dst := some 121, op := Op.extract (Operand.tmp 110) 0, type := 51, pos := "exact.go:2927", after := #[{ on := 10, ground := Ground.data }], guard := none }) (v := ?_) rfl (by kernel_rfl) (by kernel_rfl) (by kernel_rfl) (fun _ _ _ h => h) (Or.inl ⟨by rfl, ?_⟩) (by assumption) ?_
              rotate_left
              · (intro w hSw; (try dsimp only at hSw); go_simp; try with_reducible rfl)
              try simp only [Act.put, List.setIfInBounds_toArray, List.set_cons_zero, List.set_cons_succ]
              refine wpAnyH_take (i := 12) (oi := { dst := some 122, op := Op.extract (Operand.tmp 110) 1, type := 2, pos := "exact.go:2927", after := #[{ on := 10, ground := Ground.data }, { on := 14, ground := Ground.gcOnly Departure.lateStores }], guard := none }) (v := ?_) rfl (by kernel_rfl) (by kernel_rfl) (by kernel_rfl) (fun _ _ _ h => h) (Or.inl ⟨by rfl, ?_⟩) (by assumption) ?_
              rotate_left
              · (intro w hSw; (try dsimp only at hSw); go_simp; try with_reducible rfl)
              try simp only [Act.put, List.setIfInBounds_toArray, List.set_cons_zero, List.set_cons_succ]
              refine wpAnyH_ready (rs := [14]) (by kernel_rfl) (by simp) ?_
              refine AllReadyH.cons (i := 14) (o := { dst := none, op := Op.store 51 (Operand.tmp 21) (Operand.tmp 121), type := 0, pos := "exact.go:2927", after := #[{ on := 13, ground := Ground.data }, { on := 11, ground := Ground.data }, { on := 9, ground := Ground.chain }, { on := 0, ground := Ground.phase }, { on := 1, ground := Ground.phase }, { on := 2, ground := Ground.phase }, { on := 3, ground := Ground.phase }, { on := 4, ground := Ground.phase }, { on := 5, ground := Ground.phase }, { on := 6, ground := Ground.phase }, { on := 7, ground := Ground.phase }, { on := 8, ground := Ground.phase }, { on := 9, ground := Ground.phase }, { on := 10, ground := Ground.phase }, { on := 11, ground := Ground.phase }, { on := 12, ground := Ground.textOnly Departure.lateStores }, { on := 13, ground := Ground.phase }], guard := none }) rfl (fun K hK => ?_) AllReadyH.nil
              obtain ⟨c0, c1_, c2_, cf⟩ := unhide HA
              have f0 := cf 0
              have f1 := cf 1
              have f2 := cf 2
              clear cf
              go_simp
              refine hK.out _ _ ?_ (fun hHeld => ?_)
              · exact GA.of ((((unhide hk).ba.set (unhide HP).1 (unhide HP).2.1 (unhide HP).2.2.1 (unhide HP).2.2.2 (unhide HLG) _).set (unhide HP).1 (unhide HP).2.1 (unhide HP).2.2.1 (unhide HP).2.2.2 (unhide HLG) _).set (unhide HP).1 (unhide HP).2.1 (unhide HP).2.2.1 (unhide HP).2.2.2 (unhide HLG) _)
              clear hK K c0 c1_ c2_ f0 f1 f2
              try simp only [Act.put, List.setIfInBounds_toArray, List.set_cons_zero, List.set_cons_succ]
              refine wpAnyH_take (i := 15) (oi := { dst := some 22, op := Op.assign (Operand.tmp 122), type := 2, pos := "exact.go:2927", after := #[{ on := 12, ground := Ground.data }, { on := 14, ground := Ground.chain }, { on := 0, ground := Ground.phase }, { on := 1, ground := Ground.phase }, { on := 2, ground := Ground.phase }, { on := 3, ground := Ground.phase }, { on := 4, ground := Ground.phase }, { on := 5, ground := Ground.phase }, { on := 6, ground := Ground.phase }, { on := 7, ground := Ground.phase }, { on := 8, ground := Ground.phase }, { on := 9, ground := Ground.phase }, { on := 10, ground := Ground.phase }, { on := 11, ground := Ground.phase }, { on := 12, ground := Ground.phase }, { on := 13, ground := Ground.phase }, { on := 14, ground := Ground.phase }], guard := none }) (v := ?_) rfl (by kernel_rfl) (by kernel_rfl) (by kernel_rfl) (fun _ _ _ h => h) (Or.inl ⟨by rfl, ?_⟩) (by assumption) ?_
              rotate_left
              · (intro w hSw; (try dsimp only at hSw); go_simp; try with_reducible rfl)
              try simp only [Act.put, List.setIfInBounds_toArray, List.set_cons_zero, List.set_cons_succ]
              refine wpAnyH_done (by kernel_rfl) ?_ _
              clear hHeld
              go_wp2_with fail
              go_meet
              exact ⟨bz, Bz, Tz, oa, ca, ob, cb, rfl, rfl, Ans.stored (unhide HA) (unhide HR) (unhide HN), unhide HLB, unhide HLG, bel_set (bel_set (bel_set (unhide hk).bel (unhide HLG)) (unhide HLG)) (unhide HLG)⟩
          · have HA := C3.new wz3 (.bool false) (.slice none 0 0) (.slice none 0 0) 51
            have hlg : s8.heap.size ≤ wz3.heap.size := (unhide hk).bel.size
            have ka := (Below.refl _ wz3).alloc (Nat.le_refl _) (Obj.cells #[.bool false, .slice none 0 0, .slice none 0 0] 51)
            have hk := hide ((unhide hk).call ka)
            have HQ1 := hide ((unhide HQ1).call ka)
            have HQ2 := hide ((unhide HQ2).call ka)
            have HQ3 := hide ((unhide HQ3).call ka)
            have HQ4 := hide ((unhide HQ4).call ka)
            have HQ5 := hide ((unhide HQ5).call ka)
            clear ka
            go_simp
            refine hK.out _ _ (unhide hk) (fun hHeld => ?_)
            clear hK K
            try simp only [Act.put, List.setIfInBounds_toArray, List.set_cons_zero, List.set_cons_succ]
            clear hHeld
            generalize hg : wz3.alloc (Obj.cells #[.bool false, .slice none 0 0, .slice none 0 0] 51) = wz4 at HA hk HQ1 HQ2 HQ3 HQ4 HQ5 ⊢
            clear hg
            have hHeld := unhide hk
            generalize wz3.heap.size = bz at HA hlg ⊢
            have HA := hide HA
            have HLG := hide hlg
            clear hlg
            refine wpAnyH_ready (rs := [8]) (by kernel_rfl) (by simp) ?_
            refine AllReadyH.cons (i := 8) (o := { dst := some 119, op := Op.call { callee := Callee.value (Operand.func 23), args := #[Operand.tmp 118], argTypes := #[57] }, type := 60, pos := "exact.go:2927", after := #[{ on := 7, ground := Ground.data }, { on := 6, ground := Ground.chain }], guard := none }) rfl (fun K hK => ?_) AllReadyH.nil
            go_simp
            refine (toInterval_c _ _ _).mono ?_
            rintro e wz5 ⟨rfl, hb⟩
            have hk := hide ((unhide hk).call hb)
            have HQ1 := hide ((unhide HQ1).call hb)
            have HQ2 := hide ((unhide HQ2).call hb)
            have HQ3 := hide ((unhide HQ3).call hb)
            have HQ4 := hide ((unhide HQ4).call hb)
            have HQ5 := hide ((unhide HQ5).call hb)
            have HA := hide ((unhide HA).call hb)
            clear hb
            refine hK.out _ _ (unhide hk) (fun hHeld => ?_)
            clear hK K
            try simp only [Act.put, List.setIfInBounds_toArray, List.set_cons_zero, List.set_cons_succ]
            refine wpAnyH_ready (rs := [9]) (by kernel_rfl) (by simp) ?_
            refine AllReadyH.cons (i := 9) (o := { dst := some 120, op := Op.call { callee := Callee.value (Operand.func 24), args := #[Operand.tmp 112, Operand.tmp 114, Operand.tmp 115, Operand.tmp 117, Operand.tmp 119], argTypes := #[35, 51, 2, 60, 60] }, type := 58, pos := "exact.go:2927", after := #[{ on := 1, ground := Ground.data }, { on := 3, ground := Ground.data }, { on := 4, ground := Ground.data }, { on := 6, ground := Ground.data }, { on := 8, ground := Ground.data }, { on := 8, ground := Ground.chain }], guard := none }) rfl (fun K hK => ?_) AllReadyH.nil
            go_simp
            refine (iEnvPut_c b1 b2 b3 _ _ _ vs fs rs li d1 d2 _ _ xs ys v pl ph al ah _ ((unhide HWU).call (unhide hk).bel) (unhide HQ1).1 (unhide HQ2).1 (unhide HQ3).1 (unhide HZ) (unhide HQ4).1 (unhide HQ5).1).mono ?_
            rintro e wz6 ⟨oa, ca, ob, cb, rfl, RE, hb⟩
            rw [← unhide HOKE, ← unhide HXE, ← unhide HYE, ← unhide HAE]
            rw [← unhide HXE, ← unhide HYE] at RE
            have HR := RowsT.of RE
            have hlb : s8.heap.size ≤ wz5.heap.size := (unhide hk).bel.size
            have hn : bz < wz5.heap.size := (unhide HA).lt
            generalize wz5.heap.size = Bz at HR hlb hn
            generalize wz6.heap.size = Tz at HR
            have HR := hide HR
            have HLB := hide hlb
            have HN : Hid (bz < Bz ∨ Tz ≤ bz) := Or.inl hn
            clear hlb RE hn
            have hk := hide ((unhide hk).call hb)
            have HQ1 := hide ((unhide HQ1).call hb)
            have HQ2 := hide ((unhide HQ2).call hb)
            have HQ3 := hide ((unhide HQ3).call hb)
            have HQ4 := hide ((unhide HQ4).call hb)
            have HQ5 := hide ((unhide HQ5).call hb)
            have HA := hide ((unhide HA).call hb)
            clear hb
            refine hK.out _ _ (unhide hk) (fun hHeld => ?_)
            clear hK K
            try simp only [Act.put, List.setIfInBounds_toArray, List.set_cons_zero, List.set_cons_succ]
            refine wpAnyH_take (i := 10) (oi := { dst := some 110, op := Op.move (Operand.tmp 120), type := 58, pos := "exact.go:2927", after := #[{ on := 9, ground := Ground.data }], guard := none }) (v := ?_) rfl (by kernel_rfl) (by kernel_rfl) (by kernel_rfl) (fun _ _ _ h => h) (Or.inl ⟨by rfl, ?_⟩) (by assumption) ?_
            rotate_left
            · (intro w hSw; (try dsimp only at hSw); go_simp; try with_reducible rfl)
            try simp only [Act.put, List.setIfInBounds_toArray, List.set_cons_zero, List.set_cons_succ]
            refine wpAnyH_take (i := 11) (oi := { dst := some 121, op := Op.extract (Operand.tmp 110) 0, type := 51, pos := "exact.go:2927", after := #[{ on := 10, ground := Ground.data }], guard := none }) (v := ?_) rfl (by kernel_rfl) (by kernel_rfl) (by kernel_rfl) (fun _ _ _ h => h) (Or.inl ⟨by rfl, ?_⟩) (by assumption) ?_
            rotate_left
            · (intro w hSw; (try dsimp only at hSw); go_simp; try with_reducible rfl)
            try simp only [Act.put, List.setIfInBounds_toArray, List.set_cons_zero, List.set_cons_succ]
            refine wpAnyH_take (i := 12) (oi := { dst := some 122, op := Op.extract (Operand.tmp 110) 1, type := 2, pos := "exact.go:2927", after := #[{ on := 10, ground := Ground.data }, { on := 14, ground := Ground.gcOnly Departure.lateStores }], guard := none }) (v := ?_) rfl (by kernel_rfl) (by kernel_rfl) (by kernel_rfl) (fun _ _ _ h => h) (Or.inl ⟨by rfl, ?_⟩) (by assumption) ?_
            rotate_left
            · (intro w hSw; (try dsimp only at hSw); go_simp; try with_reducible rfl)
            try simp only [Act.put, List.setIfInBounds_toArray, List.set_cons_zero, List.set_cons_succ]
            refine wpAnyH_ready (rs := [14]) (by kernel_rfl) (by simp) ?_
            refine AllReadyH.cons (i := 14) (o := { dst := none, op := Op.store 51 (Operand.tmp 21) (Operand.tmp 121), type := 0, pos := "exact.go:2927", after := #[{ on := 13, ground := Ground.data }, { on := 11, ground := Ground.data }, { on := 9, ground := Ground.chain }, { on := 0, ground := Ground.phase }, { on := 1, ground := Ground.phase }, { on := 2, ground := Ground.phase }, { on := 3, ground := Ground.phase }, { on := 4, ground := Ground.phase }, { on := 5, ground := Ground.phase }, { on := 6, ground := Ground.phase }, { on := 7, ground := Ground.phase }, { on := 8, ground := Ground.phase }, { on := 9, ground := Ground.phase }, { on := 10, ground := Ground.phase }, { on := 11, ground := Ground.phase }, { on := 12, ground := Ground.textOnly Departure.lateStores }, { on := 13, ground := Ground.phase }], guard := none }) rfl (fun K hK => ?_) AllReadyH.nil
            obtain ⟨c0, c1_, c2_, cf⟩ := unhide HA
            have f0 := cf 0
            have f1 := cf 1
            have f2 := cf 2
            clear cf
            go_simp
            refine hK.out _ _ ?_ (fun hHeld => ?_)
            · exact GA.of ((((unhide hk).ba.set (unhide HP).1 (unhide HP).2.1 (unhide HP).2.2.1 (unhide HP).2.2.2 (unhide HLG) _).set (unhide HP).1 (unhide HP).2.1 (unhide HP).2.2.1 (unhide HP).2.2.2 (unhide HLG) _).set (unhide HP).1 (unhide HP).2.1 (unhide HP).2.2.1 (unhide HP).2.2.2 (unhide HLG) _)
            clear hK K c0 c1_ c2_ f0 f1 f2
            try simp only [Act.put, List.setIfInBounds_toArray, List.set_cons_zero, List.set_cons_succ]
            refine wpAnyH_take (i := 15) (oi := { dst := some 22, op := Op.assign (Operand.tmp 122), type := 2, pos := "exact.go:2927", after := #[{ on := 12, ground := Ground.data }, { on := 14, ground := Ground.chain }, { on := 0, ground := Ground.phase }, { on := 1, ground := Ground.phase }, { on := 2, ground := Ground.phase }, { on := 3, ground := Ground.phase }, { on := 4, ground := Ground.phase }, { on := 5, ground := Ground.phase }, { on := 6, ground := Ground.phase }, { on := 7, ground := Ground.phase }, { on := 8, ground := Ground.phase }, { on := 9, ground := Ground.phase }, { on := 10, ground := Ground.phase }, { on := 11, ground := Ground.phase }, { on := 12, ground := Ground.phase }, { on := 13, ground := Ground.phase }, { on := 14, ground := Ground.phase }], guard := none }) (v := ?_) rfl (by kernel_rfl) (by kernel_rfl) (by kernel_rfl) (fun _ _ _ h => h) (Or.inl ⟨by rfl, ?_⟩) (by assumption) ?_
            rotate_left
            · (intro w hSw; (try dsimp only at hSw); go_simp; try with_reducible rfl)
            try simp only [Act.put, List.setIfInBounds_toArray, List.set_cons_zero, List.set_cons_succ]
            refine wpAnyH_done (by kernel_rfl) ?_ _
            clear hHeld
            go_wp2_with fail
            go_meet
            exact ⟨bz, Bz, Tz, oa, ca, ob, cb, rfl, rfl, Ans.stored (unhide HA) (unhide HR) (unhide HN), unhide HLB, unhide HLG, bel_set (bel_set (bel_set (unhide hk).bel (unhide HLG)) (unhide HLG)) (unhide HLG)⟩
        · have HA := C3.new wz2 (.bool false) (.slice none 0 0) (.slice none 0 0) 51
          have hlg : s8.heap.size ≤ wz2.heap.size := (unhide hk).bel.size
          have ka := (Below.refl _ wz2).alloc (Nat.le_refl _) (Obj.cells #[.bool false, .slice none 0 0, .slice none 0 0] 51)
          have hk := hide ((unhide hk).call ka)
          have HQ1 := hide ((unhide HQ1).call ka)
          have HQ2 := hide ((unhide HQ2).call ka)
          have HQ3 := hide ((unhide HQ3).call ka)
          have HQ4 := hide ((unhide HQ4).call ka)
          have HQ5 := hide ((unhide HQ5).call ka)
          clear ka
          go_simp
          refine hK.out _ _ (unhide hk) (fun hHeld => ?_)
          clear hK K
          try simp only [Act.put, List.setIfInBounds_toArray, List.set_cons_zero, List.set_cons_succ]
          clear hHeld
          generalize hg : wz2.alloc (Obj.cells #[.bool false, .slice none 0 0, .slice none 0 0] 51) = wz3 at HA hk HQ1 HQ2 HQ3 HQ4 HQ5 ⊢
          clear hg
          have hHeld := unhide hk
          generalize wz2.heap.size = bz at HA hlg ⊢
          have HA := hide HA
          have HLG := hide hlg
          clear hlg
          refine wpAnyH_ready (rs := [6]) (by kernel_rfl) (by simp) ?_
          refine AllReadyH.cons (i := 6) (o := { dst := some 117, op := Op.call { callee := Callee.value (Operand.func 23), args := #[Operand.tmp 116], argTypes := #[57] }, type := 60, pos := "exact.go:2927", after := #[{ on := 5, ground := Ground.data }, { on := 3, ground := Ground.chain }], guard := none }) rfl (fun K hK => ?_) AllReadyH.nil
          go_simp
          refine (toInterval_c _ _ _).mono ?_
          rintro e wz4 ⟨rfl, hb⟩
          have hk := hide ((unhide hk).call hb)
          have HQ1 := hide ((unhide HQ1).call hb)
          have HQ2 := hide ((unhide HQ2).call hb)
          have HQ3 := hide ((unhide HQ3).call hb)
          have HQ4 := hide ((unhide HQ4).call hb)
          have HQ5 := hide ((unhide HQ5).call hb)
          have HA := hide ((unhide HA).call hb)
          clear hb
          refine hK.out _ _ (unhide hk) (fun hHeld => ?_)
          clear hK K
          try simp only [Act.put, List.setIfInBounds_toArray, List.set_cons_zero, List.set_cons_succ]
          refine wpAnyH_ready (rs := [8]) (by kernel_rfl) (by simp) ?_
          refine AllReadyH.cons (i := 8) (o := { dst := some 119, op := Op.call { callee := Callee.value (Operand.func 23), args := #[Operand.tmp 118], argTypes := #[57] }, type := 60, pos := "exact.go:2927", after := #[{ on := 7, ground := Ground.data }, { on := 6, ground := Ground.chain }], guard := none }) rfl (fun K hK => ?_) AllReadyH.nil
          go_simp
          refine (toInterval_c _ _ _).mono ?_
          rintro e wz5 ⟨rfl, hb⟩
          have hk := hide ((unhide hk).call hb)
          have HQ1 := hide ((unhide HQ1).call hb)
          have HQ2 := hide ((unhide HQ2).call hb)
          have HQ3 := hide ((unhide HQ3).call hb)
          have HQ4 := hide ((unhide HQ4).call hb)
          have HQ5 := hide ((unhide HQ5).call hb)
          have HA := hide ((unhide HA).call hb)
          clear hb
          refine hK.out _ _ (unhide hk) (fun hHeld => ?_)
          clear hK K
          try simp only [Act.put, List.setIfInBounds_toArray, List.set_cons_zero, List.set_cons_succ]
          refine wpAnyH_ready (rs := [9]) (by kernel_rfl) (by simp) ?_
          refine AllReadyH.cons (i := 9) (o := { dst := some 120, op := Op.call { callee := Callee.value (Operand.func 24), args := #[Operand.tmp 112, Operand.tmp 114, Operand.tmp 115, Operand.tmp 117, Operand.tmp 119], argTypes := #[35, 51, 2, 60, 60] }, type := 58, pos := "exact.go:2927", after := #[{ on := 1, ground := Ground.data }, { on := 3, ground := Ground.data }, { on := 4, ground := Ground.data }, { on := 6, ground := Ground.data }, { on := 8, ground := Ground.data }, { on := 8, ground := Ground.chain }], guard := none }) rfl (fun K hK => ?_) AllReadyH.nil
          go_simp
          refine (iEnvPut_c b1 b2 b3 _ _ _ vs fs rs li d1 d2 _ _ xs ys v pl ph al ah _ ((unhide HWU).call (unhide hk).bel) (unhide HQ1).1 (unhide HQ2).1 (unhide HQ3).1 (unhide HZ) (unhide HQ4).1 (unhide HQ5).1).mono ?_
          rintro e wz6 ⟨oa, ca, ob, cb, rfl, RE, hb⟩
          rw [← unhide HOKE, ← unhide HXE, ← unhide HYE, ← unhide HAE]
          rw [← unhide HXE, ← unhide HYE] at RE
          have HR := RowsT.of RE
          have hlb : s8.heap.size ≤ wz5.heap.size := (unhide hk).bel.size
          have hn : bz < wz5.heap.size := (unhide HA).lt
          generalize wz5.heap.size = Bz at HR hlb hn
          generalize wz6.heap.size = Tz at HR
          have HR := hide HR
          have HLB := hide hlb
          have HN : Hid (bz < Bz ∨ Tz ≤ bz) := Or.inl hn
          clear hlb RE hn
          have hk := hide ((unhide hk).call hb)
          have HQ1 := hide ((unhide HQ1).call hb)
          have HQ2 := hide ((unhide HQ2).call hb)
          have HQ3 := hide ((unhide HQ3).call hb)
          have HQ4 := hide ((unhide HQ4).call hb)
          have HQ5 := hide ((unhide HQ5).call hb)
          have HA := hide ((unhide HA).call hb)
          clear hb
          refine hK.out _ _ (unhide hk) (fun hHeld => ?_)
          clear hK K
          try simp only [Act.put, List.setIfInBounds_toArray, List.set_cons_zero, List.set_cons_succ]
          refine wpAnyH_take (i := 10) (oi := { dst := some 110, op := Op.move (Operand.tmp 120), type := 58, pos := "exact.go:2927", after := #[{ on := 9, ground := Ground.data }], guard := none }) (v := ?_) rfl (by kernel_rfl) (by kernel_rfl) (by kernel_rfl) (fun _ _ _ h => h) (Or.inl ⟨by rfl, ?_⟩) (by assumption) ?_
          rotate_left
          · (intro w hSw; (try dsimp only at hSw); go_simp; try with_reducible rfl)
          try simp only [Act.put, List.setIfInBounds_toArray, List.set_cons_zero, List.set_cons_succ]
          refine wpAnyH_take (i := 11) (oi := { dst := some 121, op := Op.extract (Operand.tmp 110) 0, type := 51, pos := "exact.go:2927", after := #[{ on := 10, ground := Ground.data }], guard := none }) (v := ?_) rfl (by kernel_rfl) (by kernel_rfl) (by kernel_rfl) (fun _ _ _ h => h) (Or.inl ⟨by rfl, ?_⟩) (by assumption) ?_
          rotate_left
          · (intro w hSw; (try dsimp only at hSw); go_simp; try with_reducible rfl)
          try simp only [Act.put, List.setIfInBounds_toArray, List.set_cons_zero, List.set_cons_succ]
          refine wpAnyH_take (i := 12) (oi := { dst := some 122, op := Op.extract (Operand.tmp 110) 1, type := 2, pos := "exact.go:2927", after := #[{ on := 10, ground := Ground.data }, { on := 14, ground := Ground.gcOnly Departure.lateStores }], guard := none }) (v := ?_) rfl (by kernel_rfl) (by kernel_rfl) (by kernel_rfl) (fun _ _ _ h => h) (Or.inl ⟨by rfl, ?_⟩) (by assumption) ?_
          rotate_left
          · (intro w hSw; (try dsimp only at hSw); go_simp; try with_reducible rfl)
          try simp only [Act.put, List.setIfInBounds_toArray, List.set_cons_zero, List.set_cons_succ]
          refine wpAnyH_ready (rs := [14]) (by kernel_rfl) (by simp) ?_
          refine AllReadyH.cons (i := 14) (o := { dst := none, op := Op.store 51 (Operand.tmp 21) (Operand.tmp 121), type := 0, pos := "exact.go:2927", after := #[{ on := 13, ground := Ground.data }, { on := 11, ground := Ground.data }, { on := 9, ground := Ground.chain }, { on := 0, ground := Ground.phase }, { on := 1, ground := Ground.phase }, { on := 2, ground := Ground.phase }, { on := 3, ground := Ground.phase }, { on := 4, ground := Ground.phase }, { on := 5, ground := Ground.phase }, { on := 6, ground := Ground.phase }, { on := 7, ground := Ground.phase }, { on := 8, ground := Ground.phase }, { on := 9, ground := Ground.phase }, { on := 10, ground := Ground.phase }, { on := 11, ground := Ground.phase }, { on := 12, ground := Ground.textOnly Departure.lateStores }, { on := 13, ground := Ground.phase }], guard := none }) rfl (fun K hK => ?_) AllReadyH.nil
          obtain ⟨c0, c1_, c2_, cf⟩ := unhide HA
          have f0 := cf 0
          have f1 := cf 1
          have f2 := cf 2
          clear cf
          go_simp
          refine hK.out _ _ ?_ (fun hHeld => ?_)
          · exact GA.of ((((unhide hk).ba.set (unhide HP).1 (unhide HP).2.1 (unhide HP).2.2.1 (unhide HP).2.2.2 (unhide HLG) _).set (unhide HP).1 (unhide HP).2.1 (unhide HP).2.2.1 (unhide HP).2.2.2 (unhide HLG) _).set (unhide HP).1 (unhide HP).2.1 (unhide HP).2.2.1 (unhide HP).2.2.2 (unhide HLG) _)
          clear hK K c0 c1_ c2_ f0 f1 f2
          try simp only [Act.put, List.setIfInBounds_toArray, List.set_cons_zero, List.set_cons_succ]
          refine wpAnyH_take (i := 15) (oi := { dst := some 22, op := Op.assign (Operand.tmp 122), type := 2, pos := "exact.go:2927", after := #[{ on := 12, ground := Ground.data }, { on := 14, ground := Ground.chain }, { on := 0, ground := Ground.phase }, { on := 1, ground := Ground.phase }, { on := 2, ground := Ground.phase }, { on := 3, ground := Ground.phase }, { on := 4, ground := Ground.phase }, { on := 5, ground := Ground.phase }, { on := 6, ground := Ground.phase }, { on := 7, ground := Ground.phase }, { on := 8, ground := Ground.phase }, { on := 9, ground := Ground.phase }, { on := 10, ground := Ground.phase }, { on := 11, ground := Ground.phase }, { on := 12, ground := Ground.phase }, { on := 13, ground := Ground.phase }, { on := 14, ground := Ground.phase }], guard := none }) (v := ?_) rfl (by kernel_rfl) (by kernel_rfl) (by kernel_rfl) (fun _ _ _ h => h) (Or.inl ⟨by rfl, ?_⟩) (by assumption) ?_
          rotate_left
          · (intro w hSw; (try dsimp only at hSw); go_simp; try with_reducible rfl)
          try simp only [Act.put, List.setIfInBounds_toArray, List.set_cons_zero, List.set_cons_succ]
          refine wpAnyH_done (by kernel_rfl) ?_ _
          clear hHeld
          go_wp2_with fail
          go_meet
          exact ⟨bz, Bz, Tz, oa, ca, ob, cb, rfl, rfl, Ans.stored (unhide HA) (unhide HR) (unhide HN), unhide HLB, unhide HLG, bel_set (bel_set (bel_set (unhide hk).bel (unhide HLG)) (unhide HLG)) (unhide HLG)⟩
      · have HA := C3.new wz1 (.bool false) (.slice none 0 0) (.slice none 0 0) 51
        have hlg : s8.heap.size ≤ wz1.heap.size := (unhide hk).bel.size
        have ka := (Below.refl _ wz1).alloc (Nat.le_refl _) (Obj.cells #[.bool false, .slice none 0 0, .slice none 0 0] 51)
        have hk := hide ((unhide hk).call ka)
        have HQ1 := hide ((unhide HQ1).call ka)
        have HQ2 := hide ((unhide HQ2).call ka)
        have HQ3 := hide ((unhide HQ3).call ka)
        clear ka
        go_simp
        refine hK.out _ _ (unhide hk) (fun hHeld => ?_)
        clear hK K
        try simp only [Act.put, List.setIfInBounds_toArray, List.set_cons_zero, List.set_cons_succ]
        clear hHeld
        generalize hg : wz1.alloc (Obj.cells #[.bool false, .slice none 0 0, .slice none 0 0] 51) = wz2 at HA hk HQ1 HQ2 HQ3 ⊢
        clear hg
        have hHeld := unhide hk
        generalize wz1.heap.size = bz at HA hlg ⊢
        have HA := hide HA
        have HLG := hide hlg
        clear hlg
        refine wpAnyH_ready (rs := [3]) (by kernel_rfl) (by simp) ?_
        refine AllReadyH.cons (i := 3) (o := { dst := some 114, op := Op.call { callee := Callee.value (Operand.func 18), args := #[Operand.tmp 113], argTypes := #[44] }, type := 51, pos := "exact.go:2927", after := #[{ on := 2, ground := Ground.data }, { on := 1, ground := Ground.chain }], guard := none }) rfl (fun K hK => ?_) AllReadyH.nil
        go_simp
        refine (toEnv_c li xa ya xc yc xs ys _ ((unhide SXU).call (unhide hk).bel) ((unhide SYU).call (unhide hk).bel)).mono ?_
        rintro e wz3 ⟨d1, d2, rfl, Q4, Q5, _, hb⟩
        have hk := hide ((unhide hk).call hb)
        have HQ1 := hide ((unhide HQ1).call hb)
        have HQ2 := hide ((unhide HQ2).call hb)
        have HQ3 := hide ((unhide HQ3).call hb)
        have HA := hide ((unhide HA).call hb)
        clear hb
        have HQ4 := hide Q4
        clear Q4
        have HQ5 := hide Q5
        clear Q5
        refine hK.out _ _ (unhide hk) (fun hHeld => ?_)
        clear hK K
        try simp only [Act.put, List.setIfInBounds_toArray, List.set_cons_zero, List.set_cons_succ]
        refine wpAnyH_ready (rs := [6]) (by kernel_rfl) (by simp) ?_
        refine AllReadyH.cons (i := 6) (o := { dst := some 117, op := Op.call { callee := Callee.value (Operand.func 23), args := #[Operand.tmp 116], argTypes := #[57] }, type := 60, pos := "exact.go:2927", after := #[{ on := 5, ground := Ground.data }, { on := 3, ground := Ground.chain }], guard := none }) rfl (fun K hK => ?_) AllReadyH.nil
        go_simp
        refine (toInterval_c _ _ _).mono ?_
        rintro e wz4 ⟨rfl, hb⟩
        have hk := hide ((unhide hk).call hb)
        have HQ1 := hide ((unhide HQ1).call hb)
        have HQ2 := hide ((unhide HQ2).call hb)
        have HQ3 := hide ((unhide HQ3).call hb)
        have HQ4 := hide ((unhide HQ4).call hb)
        have HQ5 := hide ((unhide HQ5).call hb)
        have HA := hide ((unhide HA).call hb)
        clear hb
        refine hK.out _ _ (unhide hk) (fun hHeld => ?_)
        clear hK K
        try simp only [Act.put, List.setIfInBounds_toArray, List.set_cons_zero, List.set_cons_succ]
        refine wpAnyH_ready (rs := [8]) (by kernel_rfl) (by simp) ?_
        refine AllReadyH.cons (i := 8) (o := { dst := some 119, op := Op.call { callee := Callee.value (Operand.func 23), args := #[Operand.tmp 118], argTypes := #[57] }, type := 60, pos := "exact.go:2927", after := #[{ on := 7, ground := Ground.data }, { on := 6, ground := Ground.chain }], guard := none }) rfl (fun K hK => ?_) AllReadyH.nil
        go_simp
        refine (toInterval_c _ _ _).mono ?_
        rintro e wz5 ⟨rfl, hb⟩
        have hk := hide ((unhide hk).call hb)
        have HQ1 := hide ((unhide HQ1).call hb)
        have HQ2 := hide ((unhide HQ2).call hb)
        have HQ3 := hide ((unhide HQ3).call hb)
        have HQ4 := hide ((unhide HQ4).call hb)
        have HQ5 := hide ((unhide HQ5).call hb)
        have HA := hide ((unhide HA).call hb)
        clear hb
        refine hK.out _ _ (unhide hk) (fun hHeld => ?_)
        clear hK K
        try simp only [Act.put, List.setIfInBounds_toArray, List.set_cons_zero, List.set_cons_succ]
        refine wpAnyH_ready (rs := [9]) (by kernel_rfl) (by simp) ?_
        refine AllReadyH.cons (i := 9) (o := { dst := some 120, op := Op.call { callee := Callee.value (Operand.func 24), args := #[Operand.tmp 112, Operand.tmp 114, Operand.tmp 115, Operand.tmp 117, Operand.tmp 119], argTypes := #[35, 51, 2, 60, 60] }, type := 58, pos := "exact.go:2927", after := #[{ on := 1, ground := Ground.data }, { on := 3, ground := Ground.data }, { on := 4, ground := Ground.data }, { on := 6, ground := Ground.data }, { on := 8, ground := Ground.data }, { on := 8, ground := Ground.chain }], guard := none }) rfl (fun K hK => ?_) AllReadyH.nil
        go_simp
        refine (iEnvPut_c b1 b2 b3 _ _ _ vs fs rs li d1 d2 _ _ xs ys v pl ph al ah _ ((unhide HWU).call (unhide hk).bel) (unhide HQ1).1 (unhide HQ2).1 (unhide HQ3).1 (unhide HZ) (unhide HQ4).1 (unhide HQ5).1).mono ?_
        rintro e wz6 ⟨oa, ca, ob, cb, rfl, RE, hb⟩
        rw [← unhide HOKE, ← unhide HXE, ← unhide HYE, ← unhide HAE]
        rw [← unhide HXE, ← unhide HYE] at RE
        have HR := RowsT.of RE
        have hlb : s8.heap.size ≤ wz5.heap.size := (unhide hk).bel.size
        have hn : bz < wz5.heap.size := (unhide HA).lt
        generalize wz5.heap.size = Bz at HR hlb hn
        generalize wz6.heap.size = Tz at HR
        have HR := hide HR
        have HLB := hide hlb
        have HN : Hid (bz < Bz ∨ Tz ≤ bz) := Or.inl hn
        clear hlb RE hn
        have hk := hide ((unhide hk).call hb)
        have HQ1 := hide ((unhide HQ1).call hb)
        have HQ2 := hide ((unhide HQ2).call hb)
        have HQ3 := hide ((unhide HQ3).call hb)
        have HQ4 := hide ((unhide HQ4).call hb)
        have HQ5 := hide ((unhide HQ5).call hb)
        have HA := hide ((unhide HA).call hb)
        clear hb
        refine hK.out _ _ (unhide hk) (fun hHeld => ?_)
        clear hK K
        try simp only [Act.put, List.setIfInBounds_toArray, List.set_cons_zero, List.set_cons_succ]
        refine wpAnyH_take (i := 10) (oi := { dst := some 110, op := Op.move (Operand.tmp 120), type := 58, pos := "exact.go:2927", after := #[{ on := 9, ground := Ground.data }], guard := none }) (v := ?_) rfl (by kernel_rfl) (by kernel_rfl) (by kernel_rfl) (fun _ _ _ h => h) (Or.inl ⟨by rfl, ?_⟩) (by assumption) ?_
        rotate_left
        · (intro w hSw; (try dsimp only at hSw); go_simp; try with_reducible rfl)
        try simp only [Act.put, List.setIfInBounds_toArray, List.set_cons_zero, List.set_cons_succ]
        refine wpAnyH_take (i := 11) (oi := { dst := some 121, op := Op.extract (Operand.tmp 110) 0, type := 51, pos := "exact.go:2927", after := #[{ on := 10, ground := Ground.data }], guard := none }) (v := ?_) rfl (by kernel_rfl) (by kernel_rfl) (by kernel_rfl) (fun _ _ _ h => h) (Or.inl ⟨by rfl, ?_⟩) (by assumption) ?_
        rotate_left
        · (intro w hSw; (try dsimp only at hSw); go_simp; try with_reducible rfl)
        try simp only [Act.put, List.setIfInBounds_toArray, List.set_cons_zero, List.set_cons_succ]
        refine wpAnyH_take (i := 12) (oi := { dst := some 122, op := Op.extract (Operand.tmp 110) 1, type := 2, pos := "exact.go:2927", after := #[{ on := 10, ground := Ground.data }, { on := 14, ground := Ground.gcOnly Departure.lateStores }], guard := none }) (v := ?_) rfl (by kernel_rfl) (by kernel_rfl) (by kernel_rfl) (fun _ _ _ h => h) (Or.inl ⟨by rfl, ?_⟩) (by assumption) ?_
        rotate_left
        · (intro w hSw; (try dsimp only at hSw); go_simp; try with_reducible rfl)
        try simp only [Act.put, List.setIfInBounds_toArray, List.set_cons_zero, List.set_cons_succ]
        refine wpAnyH_ready (rs := [14]) (by kernel_rfl) (by simp) ?_
        refine AllReadyH.cons (i := 14) (o := { dst := none, op := Op.store 51 (Operand.tmp 21) (Operand.tmp 121), type := 0, pos := "exact.go:2927", after := #[{ on := 13, ground := Ground.data }, { on := 11, ground := Ground.data }, { on := 9, ground := Ground.chain }, { on := 0, ground := Ground.phase }, { on := 1, ground := Ground.phase }, { on := 2, ground := Ground.phase }, { on := 3, ground := Ground.phase }, { on := 4, ground := Ground.phase }, { on := 5, ground := Ground.phase }, { on := 6, ground := Ground.phase }, { on := 7, ground := Ground.phase }, { on := 8, ground := Ground.phase }, { on := 9, ground := Ground.phase }, { on := 10, ground := Ground.phase }, { on := 11, ground := Ground.phase }, { on := 12, ground := Ground.textOnly Departure.lateStores }, { on := 13, ground := Ground.phase }], guard := none }) rfl (fun K hK => ?_) AllReadyH.nil
        obtain ⟨c0, c1_, c2_, cf⟩ := unhide HA
        have f0 := cf 0
        have f1 := cf 1
        have f2 := cf 2
        clear cf
        go_simp
        refine hK.out _ _ ?_ (fun hHeld => ?_)
        · exact GA.of ((((unhide hk).ba.set (unhide HP).1 (unhide HP).2.1 (unhide HP).2.2.1 (unhide HP).2.2.2 (unhide HLG) _).set (unhide HP).1 (unhide HP).2.1 (unhide HP).2.2.1 (unhide HP).2.2.2 (unhide HLG) _).set (unhide HP).1 (unhide HP).2.1 (unhide HP).2.2.1 (unhide HP).2.2.2 (unhide HLG) _)
        clear hK K c0 c1_ c2_ f0 f1 f2
        try simp only [Act.put, List.setIfInBounds_toArray, List.set_cons_zero, List.set_cons_succ]
        refine wpAnyH_take (i := 15) (oi := { dst := some 22, op := Op.assign (Operand.tmp 122), type := 2, pos := "exact.go:2927", after := #[{ on := 12, ground := Ground.data }, { on := 14, ground := Ground.chain }, { on := 0, ground := Ground.phase }, { on := 1, ground := Ground.phase }, { on := 2, ground := Ground.phase }, { on := 3, ground := Ground.phase }, { on := 4, ground := Ground.phase }, { on := 5, ground := Ground.phase }, { on := 6, ground := Ground.phase }, { on := 7, ground := Ground.phase }, { on := 8, ground := Ground.phase }, { on := 9, ground := Ground.phase }, { on := 10, ground := Ground.phase }, { on := 11, ground := Ground.phase }, { on := 12, ground := Ground.phase }, { on := 13, ground := Ground.phase }, { on := 14, ground := Ground.phase }], guard := none }) (v := ?_) rfl (by kernel_rfl) (by kernel_rfl) (by kernel_rfl) (fun _ _ _ h => h) (Or.inl ⟨by rfl, ?_⟩) (by assumption) ?_
        rotate_left
        · (intro w hSw; (try dsimp only at hSw); go_simp; try with_reducible rfl)
        try simp only [Act.put, List.setIfInBounds_toArray, List.set_cons_zero, List.set_cons_succ]
        refine wpAnyH_done (by kernel_rfl) ?_ _
        clear hHeld
        go_wp2_with fail
        go_meet
        exact ⟨bz, Bz, Tz, oa, ca, ob, cb, rfl, rfl, Ans.stored (unhide HA) (unhide HR) (unhide HN), unhide HLB, unhide HLG, bel_set (bel_set (bel_set (unhide hk).bel (unhide HLG)) (unhide HLG)) (unhide HLG)⟩
    · have HA := C3.new wz0 (.bool false) (.slice none 0 0) (.slice none 0 0) 51
      have hlg : s8.heap.size ≤ wz0.heap.size := (unhide hk).bel.size
      have ka := (Below.refl _ wz0).alloc (Nat.le_refl _) (Obj.cells #[.bool false, .slice none 0 0, .slice none 0 0] 51)
      have hk := hide ((unhide hk).call ka)
      clear ka
      go_simp
      refine hK.out _ _ (unhide hk) (fun hHeld => ?_)
      clear hK K
      try simp only [Act.put, List.setIfInBounds_toArray, List.set_cons_zero, List.set_cons_succ]
      clear hHeld
      generalize hg : wz0.alloc (Obj.cells #[.bool false, .slice none 0 0, .slice none 0 0] 51) = wz1 at HA hk  ⊢
      clear hg
      have hHeld := unhide hk
      generalize wz0.heap.size = bz at HA hlg ⊢
      have HA := hide HA
      have HLG := hide hlg
      clear hlg
      refine wpAnyH_ready (rs := [1]) (by kernel_rfl) (by simp) ?_
      refine AllReadyH.cons (i := 1) (o := { dst := some 112, op := Op.call { callee := Callee.value (Operand.func 8), args := #[Operand.tmp 111], argTypes := #[25] }, type := 35, pos := "exact.go:2927", after := #[{ on := 0, ground := Ground.data }], guard := none }) rfl (fun K hK => ?_) AllReadyH.nil
      go_simp
      refine (toDecl_c va fa ra vc fc rc vs fs rs _ ((unhide SVU).call (unhide hk).bel) ((unhide SFU).call (unhide hk).bel) ((unhide SRU).call (unhide hk).bel)).mono ?_
      rintro e wz2 ⟨b1, b2, b3, rfl, Q1, Q2, Q3, _, hb⟩
      have hk := hide ((unhide hk).call hb)
      have HA := hide ((unhide HA).call hb)
      clear hb
      have HQ1 := hide Q1
      clear Q1
      have HQ2 := hide Q2
      clear Q2
      have HQ3 := hide Q3
      clear Q3
      refine hK.out _ _ (unhide hk) (fun hHeld => ?_)
      clear hK K
      try simp only [Act.put, List.setIfInBounds_toArray, List.set_cons_zero, List.set_cons_succ]
      refine wpAnyH_ready (rs := [3]) (by kernel_rfl) (by simp) ?_
      refine AllReadyH.cons (i := 3) (o := { dst := some 114, op := Op.call { callee := Callee.value (Operand.func 18), args := #[Operand.tmp 113], argTypes := #[44] }, type := 51, pos := "exact.go:2927", after := #[{ on := 2, ground := Ground.data }, { on := 1, ground := Ground.chain }], guard := none }) rfl (fun K hK => ?_) AllReadyH.nil
      go_simp
      refine (toEnv_c li xa ya xc yc xs ys _ ((unhide SXU).call (unhide hk).bel) ((unhide SYU).call (unhide hk).bel)).mono ?_
      rintro e wz3 ⟨d1, d2, rfl, Q4, Q5, _, hb⟩
      have hk := hide ((unhide hk).call hb)
      have HQ1 := hide ((unhide HQ1).call hb)
      have HQ2 := hide ((unhide HQ2).call hb)
      have HQ3 := hide ((unhide HQ3).call hb)
      have HA := hide ((unhide HA).call hb)
      clear hb
      have HQ4 := hide Q4
      clear Q4
      have HQ5 := hide Q5
      clear Q5
      refine hK.out _ _ (unhide hk) (fun hHeld => ?_)
      clear hK K
      try simp only [Act.put, List.setIfInBounds_toArray, List.set_cons_zero, List.set_cons_succ]
      refine wpAnyH_ready (rs := [6]) (by kernel_rfl) (by simp) ?_
      refine AllReadyH.cons (i := 6) (o := { dst := some 117, op := Op.call { callee := Callee.value (Operand.func 23), args := #[Operand.tmp 116], argTypes := #[57] }, type := 60, pos := "exact.go:2927", after := #[{ on := 5, ground := Ground.data }, { on := 3, ground := Ground.chain }], guard := none }) rfl (fun K hK => ?_) AllReadyH.nil
      go_simp
      refine (toInterval_c _ _ _).mono ?_
      rintro e wz4 ⟨rfl, hb⟩
      have hk := hide ((unhide hk).call hb)
      have HQ1 := hide ((unhide HQ1).call hb)
      have HQ2 := hide ((unhide HQ2).call hb)
      have HQ3 := hide ((unhide HQ3).call hb)
      have HQ4 := hide ((unhide HQ4).call hb)
      have HQ5 := hide ((unhide HQ5).call hb)
      have HA := hide ((unhide HA).call hb)
      clear hb
      refine hK.out _ _ (unhide hk) (fun hHeld => ?_)
      clear hK K
      try simp only [Act.put, List.setIfInBounds_toArray, List.set_cons_zero, List.set_cons_succ]
      refine wpAnyH_ready (rs := [8]) (by kernel_rfl) (by simp) ?_
      refine AllReadyH.cons (i := 8) (o := { dst := some 119, op := Op.call { callee := Callee.value (Operand.func 23), args := #[Operand.tmp 118], argTypes := #[57] }, type := 60, pos := "exact.go:2927", after := #[{ on := 7, ground := Ground.data }, { on := 6, ground := Ground.chain }], guard := none }) rfl (fun K hK => ?_) AllReadyH.nil
      go_simp
      refine (toInterval_c _ _ _).mono ?_
      rintro e wz5 ⟨rfl, hb⟩
      have hk := hide ((unhide hk).call hb)
      have HQ1 := hide ((unhide HQ1).call hb)
      have HQ2 := hide ((unhide HQ2).call hb)
      have HQ3 := hide ((unhide HQ3).call hb)
      have HQ4 := hide ((unhide HQ4).call hb)
      have HQ5 := hide ((unhide HQ5).call hb)
      have HA := hide ((unhide HA).call hb)
      clear hb
      refine hK.out _ _ (unhide hk) (fun hHeld => ?_)
      clear hK K
      try simp only [Act.put, List.setIfInBounds_toArray, List.set_cons_zero, List.set_cons_succ]
      refine wpAnyH_ready (rs := [9]) (by kernel_rfl) (by simp) ?_
      refine AllReadyH.cons (i := 9) (o := { dst := some 120, op := Op.call { callee := Callee.value (Operand.func 24), args := #[Operand.tmp 112, Operand.tmp 114, Operand.tmp 115, Operand.tmp 117, Operand.tmp 119], argTypes := #[35, 51, 2, 60, 60] }, type := 58, pos := "exact.go:2927", after := #[{ on := 1, ground := Ground.data }, { on := 3, ground := Ground.data }, { on := 4, ground := Ground.data }, { on := 6, ground := Ground.data }, { on := 8, ground := Ground.data }, { on := 8, ground := Ground.chain }], guard := none }) rfl (fun K hK => ?_) AllReadyH.nil
      go_simp
      refine (iEnvPut_c b1 b2 b3 _ _ _ vs fs rs li d1 d2 _ _ xs ys v pl ph al ah _ ((unhide HWU).call (unhide hk).bel) (unhide HQ1).1 (unhide HQ2).1 (unhide HQ3).1 (unhide HZ) (unhide HQ4).1 (unhide HQ5).1).mono ?_
      rintro e wz6 ⟨oa, ca, ob, cb, rfl, RE, hb⟩
      rw [← unhide HOKE, ← unhide HXE, ← unhide HYE, ← unhide HAE]
      rw [← unhide HXE, ← unhide HYE] at RE
      have HR := RowsT.of RE
      have hlb : s8.heap.size ≤ wz5.heap.size := (unhide hk).bel.size
      have hn : bz < wz5.heap.size := (unhide HA).lt
      generalize wz5.heap.size = Bz at HR hlb hn
      generalize wz6.heap.size = Tz at HR
      have HR := hide HR
      have HLB := hide hlb
      have HN : Hid (bz < Bz ∨ Tz ≤ bz) := Or.inl hn
      clear hlb RE hn
      have hk := hide ((unhide hk).call hb)
      have HQ1 := hide ((unhide HQ1).call hb)
      have HQ2 := hide ((unhide HQ2).call hb)
      have HQ3 := hide ((unhide HQ3).call hb)
      have HQ4 := hide ((unhide HQ4).call hb)
      have HQ5 := hide ((unhide HQ5).call hb)
      have HA := hide ((unhide HA).call hb)
      clear hb
      refine hK.out _ _ (unhide hk) (fun hHeld => ?_)
      clear hK K
      try simp only [Act.put, List.setIfInBounds_toArray, List.set_cons_zero, List.set_cons_succ]
      refine wpAnyH_take (i := 10) (oi := { dst := some 110, op := Op.move (Operand.tmp 120), type := 58, pos := "exact.go:2927", after := #[{ on := 9, ground := Ground.data }], guard := none }) (v := ?_) rfl (by kernel_rfl) (by kernel_rfl) (by kernel_rfl) (fun _ _ _ h => h) (Or.inl ⟨by rfl, ?_⟩) (by assumption) ?_
      rotate_left
      · (intro w hSw; (try dsimp only at hSw); go_simp; try with_reducible rfl)
      try simp only [Act.put, List.setIfInBounds_toArray, List.set_cons_zero, List.set_cons_succ]
      refine wpAnyH_take (i := 11) (oi := { dst := some 121, op := Op.extract (Operand.tmp 110) 0, type := 51, pos := "exact.go:2927", after := #[{ on := 10, ground := Ground.data }], guard := none }) (v := ?_) rfl (by kernel_rfl) (by kernel_rfl) (by kernel_rfl) (fun _ _ _ h => h) (Or.inl ⟨by rfl, ?_⟩) (by assumption) ?_
      rotate_left
      · (intro w hSw; (try dsimp only at hSw); go_simp; try with_reducible rfl)
      try simp only [Act.put, List.setIfInBounds_toArray, List.set_cons_zero, List.set_cons_succ]
      refine wpAnyH_take (i := 12) (oi := { dst := some 122, op := Op.extract (Operand.tmp 110) 1, type := 2, pos := "exact.go:2927", after := #[{ on := 10, ground := Ground.data }, { on := 14, ground := Ground.gcOnly Departure.lateStores }], guard := none }) (v := ?_) rfl (by kernel_rfl) (by kernel_rfl) (by kernel_rfl) (fun _ _ _ h => h) (Or.inl ⟨by rfl, ?_⟩) (by assumption) ?_
      rotate_left
      · (intro w hSw; (try dsimp only at hSw); go_simp; try with_reducible rfl)
      try simp only [Act.put, List.setIfInBounds_toArray, List.set_cons_zero, List.set_cons_succ]
      refine wpAnyH_ready (rs := [14]) (by kernel_rfl) (by simp) ?_
      refine AllReadyH.cons (i := 14) (o := { dst := none, op := Op.store 51 (Operand.tmp 21) (Operand.tmp 121), type := 0, pos := "exact.go:2927", after := #[{ on := 13, ground := Ground.data }, { on := 11, ground := Ground.data }, { on := 9, ground := Ground.chain }, { on := 0, ground := Ground.phase }, { on := 1, ground := Ground.phase }, { on := 2, ground := Ground.phase }, { on := 3, ground := Ground.phase }, { on := 4, ground := Ground.phase }, { on := 5, ground := Ground.phase }, { on := 6, ground := Ground.phase }, { on := 7, ground := Ground.phase }, { on := 8, ground := Ground.phase }, { on := 9, ground := Ground.phase }, { on := 10, ground := Ground.phase }, { on := 11, ground := Ground.phase }, { on := 12, ground := Ground.textOnly Departure.lateStores }, { on := 13, ground := Ground.phase }], guard := none }) rfl (fun K hK => ?_) AllReadyH.nil
      obtain ⟨c0, c1_, c2_, cf⟩ := unhide HA
      have f0 := cf 0
      have f1 := cf 1
      have f2 := cf 2
      clear cf
      go_simp
      refine hK.out _ _ ?_ (fun hHeld => ?_)
      · exact GA.of ((((unhide hk).ba.set (unhide HP).1 (unhide HP).2.1 (unhide HP).2.2.1 (unhide HP).2.2.2 (unhide HLG) _).set (unhide HP).1 (unhide HP).2.1 (unhide HP).2.2.1 (unhide HP).2.2.2 (unhide HLG) _).set (unhide HP).1 (unhide HP).2.1 (unhide HP).2.2.1 (unhide HP).2.2.2 (unhide HLG) _)
      clear hK K c0 c1_ c2_ f0 f1 f2
      try simp only [Act.put, List.setIfInBounds_toArray, List.set_cons_zero, List.set_cons_succ]
      refine wpAnyH_take (i := 15) (oi := { dst := some 22, op := Op.assign (Operand.tmp 122), type := 2, pos := "exact.go:2927", after := #[{ on := 12, ground := Ground.data }, { on := 14, ground := Ground.chain }, { on := 0, ground := Ground.phase }, { on := 1, ground := Ground.phase }, { on := 2, ground := Ground.phase }, { on := 3, ground := Ground.phase }, { on := 4, ground := Ground.phase }, { on := 5, ground := Ground.phase }, { on := 6, ground := Ground.phase }, { on := 7, ground := Ground.phase }, { on := 8, ground := Ground.phase }, { on := 9, ground := Ground.phase }, { on := 10, ground := Ground.phase }, { on := 11, ground := Ground.phase }, { on := 12, ground := Ground.phase }, { on := 13, ground := Ground.phase }, { on := 14, ground := Ground.phase }], guard := none }) (v := ?_) rfl (by kernel_rfl) (by kernel_rfl) (by kernel_rfl) (fun _ _ _ h => h) (Or.inl ⟨by rfl, ?_⟩) (by assumption) ?_
      rotate_left
      · (intro w hSw; (try dsimp only at hSw); go_simp; try with_reducible rfl)
      try simp only [Act.put, List.setIfInBounds_toArray, List.set_cons_zero, List.set_cons_succ]
      refine wpAnyH_done (by kernel_rfl) ?_ _
      clear hHeld
      go_wp2_with fail
      go_meet
      exact ⟨bz, Bz, Tz, oa, ca, ob, cb, rfl, rfl, Ans.stored (unhide HA) (unhide HR) (unhide HN), unhide HLB, unhide HLG, bel_set (bel_set (bel_set (unhide hk).bel (unhide HLG)) (unhide HLG)) (unhide HLG)⟩
  case rest =>
  obtain ⟨g3, B3_, T3, ra_, rc_, rb_, rd_, rfl, rfl, hans, _, _, hbel⟩ := hcut
  have HB := hide ((unhide HB).call hbel)
  have AN1 := hide ((unhide AN1).call hbel)
  have C2 := hide ((unhide C2).call hbel)
  have MK1 := hide ((unhide MK1).call hbel)
  have MK2 := hide ((unhide MK2).call hbel)
  have AN3 := hide hans
  clear hans hbel HS HP SVU SFU SRU SXU SYU HWU
  have a0 := (unhide AN3).1.1
  have a1 := (unhide AN3).1.2.1
  have a2 := (unhide AN3).1.2.2.1
  have b0 := (unhide AN1).1.1
  have b1 := (unhide AN1).1.2.1
  have b2 := (unhide AN1).1.2.2.1
  go_wp2_with fail
  refine (eqEnv_c ok _ _ _ _ _ _ _ _ X Y _ ((unhide AN3).2.1.1.ivs ⟨mX, mY⟩).1 ((unhide AN3).2.1.1.ivs ⟨mX, mY⟩).2 ((unhide AN1).2.1.1.ivs ⟨mX, mY⟩).1 ((unhide AN1).2.1.1.ivs ⟨mX, mY⟩).2).mono ?_
  rintro e s9 ⟨rfl, kb⟩
  clear a0 a1 a2 b0 b1 b2
  clear AN3
  have HB := hide ((unhide HB).call kb)
  have AN1 := hide ((unhide AN1).call kb)
  have C2 := hide ((unhide C2).call kb)
  have MK1 := hide ((unhide MK1).call kb)
  have MK2 := hide ((unhide MK2).call kb)
  clear kb
  have a0 := (unhide C2).1
  have a1 := (unhide C2).2.1
  have a2 := (unhide C2).2.2.1
  go_wp2_with fail
  refine (heldEnv_c ok _ _ X.length Y.length _ _ B2 T2 1 (by omega) mX mY _ (unhide MK1) (unhide MK2)).mono ?_
  rintro e t0 ⟨rfl, kb⟩
  clear a0 a1 a2
  have HB := hide ((unhide HB).call kb)
  have AN1 := hide ((unhide AN1).call kb)
  have C2 := hide ((unhide C2).call kb)
  have MK1 := hide ((unhide MK1).call kb)
  have MK2 := hide ((unhide MK2).call kb)
  clear kb
  rw [show (1 : Int) + 2 * (X.length : Int) + 2 * Y.length = k3 from HK3.out]
  go_wp2
  go_ret
  exact ⟨rfl, (unhide HB).2.2.2.2⟩
end Go.Proofs.YtnmpfnhjjbankaaDoor
