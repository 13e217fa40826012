/- Bounds that are drawn, from a code. -/
import Derived.Test.YthpnbmdmkmkicaaDoorDrwE
namespace Go.Proofs.YthpnbmdmkmkicaaDoor
open Go.RowKit Go.Iv
set_option linter.unusedSimpArgs false
set_option linter.unusedVariables false

/-- Bounds of the call's own. -/
def EnR (w : World) (b : Nat) (a : Option Addr) (len cap n1 n3 : Nat) (e : Ending) (w' : World) : Prop := ∃ (li : Bool) (oa : Option Addr) (ca : Nat) (ob : Option Addr) (cb : Nat) (xs ys : List (Int × Int)), e = .returned (.agg #[.bool li, .slice oa xs.length ca, .slice ob ys.length cb]) ∧ RowsE w' w.heap.size oa ca ob cb xs ys ∧ (xs.length ≤ 1000 ∧ InL xs) ∧ (ys.length ≤ 1000 ∧ InL ys) ∧ (li = true → xs.length = n1 ∧ ys.length = n3) ∧ Left b a len cap w w'
theorem one2' (x y : Int) : (∀ u ∈ [Value.int .i64 x, .int .i64 y], u.oneCell' = true) := by
  intro u hu
  simp at hu
  rcases hu with rfl | rfl <;> rfl
set_option maxRecDepth 20000 in
set_option maxHeartbeats 16000000 in
theorem env_c (b : Nat) (a : Option Addr) (len cap : Nat) (a1 a2 a3 : Option Addr) (n1 n2 n3 c1 c2 c3 : Nat) (h1 : n1 ≤ 999) (h3 : n3 ≤ 999) (w : World) (h : Rdr w b a len cap) : Calls Tryd.prog 30 #[.pointer (some ⟨b, 0, none⟩), .agg #[.slice a1 n1 c1, .slice a2 n2 c2, .slice a3 n3 c3]] w (EnR w b a len cap n1 n3) := by
  have R := hide h
  have hb := h.lt
  have HC := hide h.2.1.lt
  obtain ⟨inf, hi, hz0, hz1, hz2⟩ := info_parts ivInfo
  have h1' : (n1 : Int) ≤ 999 := by omega
  have h3' : (n3 : Int) ≤ 999 := by omega
  clear h
  go_enter Tryd.func30, Tryd.ntmps30
  go_wp2_with fail
  have hl0 := ((Left.refl (unhide R)).alloc (Obj.cells #[.slice a1 n1 c1, .slice a2 n2 c2, .slice a3 n3 c3] 27)).alloc (Obj.cells #[.bool false, .slice none 0 0, .slice none 0 0] 30)
  have t0 := (C3.new w (.slice a1 n1 c1) (.slice a2 n2 c2) (.slice a3 n3 c3) 27).alloc (Obj.cells #[.bool false, .slice none 0 0, .slice none 0 0] 30)
  have t1 := C3.new (w.alloc (Obj.cells #[.slice a1 n1 c1, .slice a2 n2 c2, .slice a3 n3 c3] 27)) (.bool false) (.slice none 0 0) (.slice none 0 0) 30
  rw [show (w.alloc (Obj.cells #[.slice a1 n1 c1, .slice a2 n2 c2, .slice a3 n3 c3] 27)).heap.size = w.heap.size + 1 by simp] at t1
  generalize (w.alloc (Obj.cells #[.slice a1 n1 c1, .slice a2 n2 c2, .slice a3 n3 c3] 27)).alloc (Obj.cells #[.bool false, .slice none 0 0, .slice none 0 0] 30) = u at hl0 t0 t1 ⊢
  have HL0 := hide hl0
  have HT0 := hide t0
  have HT1 := hide t1
  clear hl0 t0 t1 R
  refine (once_c _ _ _ _ _ (by decide) (by decide) _ (unhide HL0).1).mono ?_
  rintro e u1 ⟨q, rfl, hl⟩
  have HT0 := hide ((unhide HT0).kp hl.2 (by omega))
  have HT1 := hide ((unhide HT1).kp hl.2 (by omega))
  have HL0 := hide ((unhide HL0).trans hl)
  clear hl
  cases q
  · have h0 := C3.new u1 (.bool true) (.slice none 0 0) (.slice none 0 0) 30
    have hge : w.heap.size + 1 < u1.heap.size := (unhide HT1).lt
    have hp : EnP w b a len cap w.heap.size (w.heap.size + 1) u1.heap.size (u1.heap.size + 1) (.slice a1 n1 c1) (.slice a2 n2 c2) (.slice a3 n3 c3) none 0 none 0 [] [] (u1.alloc (Obj.cells #[.bool true, .slice none 0 0, .slice none 0 0] 30)) :=
      ⟨(unhide HL0).alloc _, (unhide HT0).alloc _, (unhide HT1).alloc _, h0, World.ownsRow_nil _ _ _ _, World.ownsRow_nil _ _ _ _, fun p q hp => by cases hp⟩
    have hn : EnN w b a len w.heap.size (w.heap.size + 1) u1.heap.size (u1.heap.size + 1) := ⟨hb, Nat.le_refl _, by omega, by omega, hge, by omega, unhide HC⟩
    have hbw : u1.heap.size + 1 ≤ (u1.alloc (Obj.cells #[.bool true, .slice none 0 0, .slice none 0 0] 30)).heap.size := by simp
    go_upto_region 4 with fail
    generalize u1.alloc (Obj.cells #[.bool true, .slice none 0 0, .slice none 0 0] 30) = u2 at hp hbw ⊢
    generalize u1.heap.size = ge at hp hn hbw ⊢
    have HP := hide hp
    have HN := hide hn
    have HBW := hide hbw
    clear hp hn hbw h0 hge HT0 HT1 HL0
    have d0 := (unhide HP).2.1.1
    go_wp2
    clear d0
    go_loopw [6] (fun i wr => ∃ (xs : List (Int × Int)) (oa : Option Addr) (ca : Nat), xs.length ≤ n1 ∧ i = .int .i64 xs.length ∧ EnP w b a len cap w.heap.size (w.heap.size + 1) ge (ge + 1) (.slice a1 n1 c1) (.slice a2 n2 c2) (.slice a3 n3 c3) oa ca none 0 xs [] wr ∧ ge + 1 ≤ wr.heap.size ∧ InL xs) (fun i _ => n1 - (intOf i).toNat)
    case atStart => exact ⟨[], none, 0, Nat.zero_le _, rfl, unhide HP, unhide HBW, InL.nil⟩
    case round =>
      clear HP HBW
      obtain ⟨xs, oa, ca, hk, rfl, hp, hbw, hin⟩ := hrel
      have HP := hide hp
      have HBW := hide hbw
      have d0 := hp.2.1.1
      have HIX := hide hin
      clear hp hbw hin
      by_cases hlt : xs.length < n1
      · go_upto_region 7 with fail
        clear d0
        have HP := hide (EnP.drew (unhide HP))
        obtain ⟨wz, hwz⟩ : ∃ x, x = wr.drew := ⟨_, rfl⟩
        refine wp_region_held_drew (S := fun _ => True) (by kernel_rfl) trivial (fun hHeld => ?_)
        rw [← hwz] at HP ⊢
        have hBz : ge + 1 ≤ wz.heap.size := by rw [hwz]; exact unhide HBW
        clear hwz
        refine wpAnyH_take (i := 0) (oi := { dst := some 19, op := Op.fieldAddr 30 (Operand.tmp 5) 1, type := 0, pos := "l06_bounds.go:158", after := #[], guard := none }) (v := ?_) rfl (by kernel_rfl) (by kernel_rfl) (by kernel_rfl) (fun _ _ _ h => h) (Or.inl ⟨by rfl, ?_⟩) (by assumption) ?_
        rotate_left
        · (intro w9 hSw; (try dsimp only at hSw); go_simp; try with_reducible rfl)
        try simp only [Act.put, List.setIfInBounds_toArray, List.set_cons_zero, List.set_cons_succ]
        refine wpAnyH_take (i := 2) (oi := { dst := some 21, op := Op.move (Operand.tmp 0), type := 60, pos := "l06_bounds.go:158", after := #[], guard := none }) (v := ?_) rfl (by kernel_rfl) (by kernel_rfl) (by kernel_rfl) (fun _ _ _ h => h) (Or.inl ⟨by rfl, ?_⟩) (by assumption) ?_
        rotate_left
        · (intro w9 hSw; (try dsimp only at hSw); go_simp; try with_reducible rfl)
        try simp only [Act.put, List.setIfInBounds_toArray, List.set_cons_zero, List.set_cons_succ]
        refine wpAnyH_ready (rs := [1, 3]) (by kernel_rfl) (by simp) ?_
        refine AllReadyH.cons (i := 1) (o := { dst := some 20, op := Op.load 28 (Operand.tmp 19), type := 28, pos := "l06_bounds.go:158", after := #[{ on := 0, ground := Ground.data }], guard := none }) rfl (fun K hK => ?_) (AllReadyH.cons (i := 3) (o := { dst := some 22, op := Op.call { callee := Callee.value (Operand.func 57), args := #[Operand.tmp 21], argTypes := #[60] }, type := 47, pos := "l06_bounds.go:158", after := #[{ on := 2, ground := Ground.data }], guard := none }) rfl (fun K hK => ?_) AllReadyH.nil)
        · have q1 := (unhide HP).2.2.2.1.2.1
          go_simp
          refine hK.out _ _ trivial (fun hHeld => ?_)
          clear hK K q1
          try simp only [Act.put, List.setIfInBounds_toArray, List.set_cons_zero, List.set_cons_succ]
          refine wpAnyH_ready (rs := [3]) (by kernel_rfl) (by simp) ?_
          refine AllReadyH.cons (i := 3) (o := { dst := some 22, op := Op.call { callee := Callee.value (Operand.func 57), args := #[Operand.tmp 21], argTypes := #[60] }, type := 47, pos := "l06_bounds.go:158", after := #[{ on := 2, ground := Ground.data }], guard := none }) rfl (fun K hK => ?_) AllReadyH.nil
          go_simp
          refine (small_c _ _ _ _ _ (unhide HP).1.1).mono ?_
          rintro e u9 ⟨l, g, rfl, lin, gin, hl⟩
          have hBu : ge + 1 ≤ u9.heap.size := Nat.le_trans hBz hl.2.size
          have HP := hide ((unhide HP).kp (unhide HN) hl)
          have HLG := hide (And.intro lin gin)
          clear hl lin gin hBz
          refine hK.out _ _ trivial (fun hHeld => ?_)
          clear hK K
          try simp only [Act.put, List.setIfInBounds_toArray, List.set_cons_zero, List.set_cons_succ]
          refine wpAnyH_ready (rs := [4]) (by kernel_rfl) (by simp) ?_
          refine AllReadyH.cons (i := 4) (o := { dst := some 23, op := Op.buildSlice 28 1 #[(0, Operand.tmp 22)], type := 28, pos := "l06_bounds.go:158", after := #[{ on := 3, ground := Ground.data }], guard := none }) rfl (fun K hK => ?_) AllReadyH.nil
          go_simp
          refine hK.out _ _ trivial (fun hHeld => ?_)
          clear hK K
          try simp only [Act.put, List.setIfInBounds_toArray, List.set_cons_zero, List.set_cons_succ]
          refine wpAnyH_ready (rs := [5]) (by kernel_rfl) (by simp) ?_
          refine AllReadyH.cons (i := 5) (o := { dst := some 24, op := Op.call { callee := Callee.builtin Builtin.append, args := #[Operand.tmp 20, Operand.tmp 23], argTypes := #[28, 28] }, type := 28, pos := "l06_bounds.go:158", after := #[{ on := 1, ground := Ground.data }, { on := 4, ground := Ground.data }, { on := 3, ground := Ground.chain }], guard := none }) rfl (fun K hK => ?_) AllReadyH.nil
          refine step_app2 _ (by rfl) _ _ _ (by rfl) (ge + 1) 47 inf (.agg #[.int .i64 0, .int .i64 0]) 2 16 Tryd.underlying28 hi hz0 hz1 hz2 rfl (by decide) (.slice oa xs.length ca) xs.length (cellsV xs) (by rfl) (World.ownsRow.alloc ((unhide HP).2.2.2.2.1) _) ⟨_, 0, none⟩ 1 1 [.int .i64 l, .int .i64 g] (by rfl) rfl (World.news_of_block (heap_alloc_new _ _)) (one2' _ _) (by unfold maxLen; omega) (by omega) (by simp; omega) ?_
          intro o' c' w5 hown hgrow hloc
          refine hK.out _ _ trivial (fun hHeld => ?_)
          clear hK K
          obtain ⟨hp2, hc2⟩ := EnP.app1 ((unhide HP).alloc (Obj.cells #[.int .i64 l, .int .i64 g] 47)) (unhide HN) (by simp; omega) hown hgrow hloc
          have HP2 := hide hp2
          have HC2 := hide hc2
          have hB5 : ge + 1 ≤ w5.heap.size := by have := hgrow.size; simp at this; omega
          clear hp2 hc2 hown hgrow hloc HP hBu
          try simp only [Act.put, List.setIfInBounds_toArray, List.set_cons_zero, List.set_cons_succ]
          refine wpAnyH_take (i := 6) (oi := { dst := some 25, op := Op.fieldAddr 30 (Operand.tmp 5) 1, type := 0, pos := "l06_bounds.go:158", after := #[{ on := 0, ground := Ground.phase }, { on := 1, ground := Ground.phase }, { on := 2, ground := Ground.phase }, { on := 3, ground := Ground.phase }, { on := 4, ground := Ground.phase }, { on := 5, ground := Ground.phase }], guard := none }) (v := ?_) rfl (by kernel_rfl) (by kernel_rfl) (by kernel_rfl) (fun _ _ _ h => h) (Or.inl ⟨by rfl, ?_⟩) (by assumption) ?_
          rotate_left
          · (intro w9 hSw; (try dsimp only at hSw); go_simp; try with_reducible rfl)
          try simp only [Act.put, List.setIfInBounds_toArray, List.set_cons_zero, List.set_cons_succ]
          refine wpAnyH_ready (rs := [7]) (by kernel_rfl) (by simp) ?_
          refine AllReadyH.cons (i := 7) (o := { dst := none, op := Op.store 28 (Operand.tmp 25) (Operand.tmp 24), type := 0, pos := "l06_bounds.go:158", after := #[{ on := 6, ground := Ground.data }, { on := 5, ground := Ground.data }, { on := 5, ground := Ground.chain }, { on := 0, ground := Ground.phase }, { on := 1, ground := Ground.phase }, { on := 2, ground := Ground.phase }, { on := 3, ground := Ground.phase }, { on := 4, ground := Ground.phase }, { on := 5, ground := Ground.phase }], guard := none }) rfl (fun K hK => ?_) AllReadyH.nil
          have q0 := (unhide HC2).1
          have q1 := (unhide HC2).2.1
          have q2 := (unhide HC2).2.2.1
          have f0 := (unhide HC2).2.2.2 0
          have f1 := (unhide HC2).2.2.2 1
          have f2 := (unhide HC2).2.2.2 2
          go_simp
          refine hK.out _ _ trivial (fun hHeld => ?_)
          clear hK K q0 q1 q2 f0 f1 f2
          try simp only [Act.put, List.setIfInBounds_toArray, List.set_cons_zero, List.set_cons_succ]
          refine wpAnyH_done (by kernel_rfl) ?_ _
          have hB6 : ge + 1 ≤ (w5.setCell ⟨ge, 1, none⟩ (.slice o' (xs.length + 1) c')).heap.size := by rw [size_setCell]; exact hB5
          go_wp2
          go_roundw
          case rel => exact ⟨xs ++ [(l, g)], o', c', by simp; omega, by simp only [List.length_append, List.length_cons, List.length_nil]; go_num, unhide HP2, hB6, (unhide HIX).snoc (unhide HLG).1 (unhide HLG).2⟩
          case measure => simp [intOf]; omega
        · go_simp
          refine (small_c _ _ _ _ _ (unhide HP).1.1).mono ?_
          rintro e u9 ⟨l, g, rfl, lin, gin, hl⟩
          have hBu : ge + 1 ≤ u9.heap.size := Nat.le_trans hBz hl.2.size
          have HP := hide ((unhide HP).kp (unhide HN) hl)
          have HLG := hide (And.intro lin gin)
          clear hl lin gin hBz
          refine hK.out _ _ trivial (fun hHeld => ?_)
          clear hK K
          try simp only [Act.put, List.setIfInBounds_toArray, List.set_cons_zero, List.set_cons_succ]
          refine wpAnyH_ready (rs := [1, 4]) (by kernel_rfl) (by simp) ?_
          refine AllReadyH.cons (i := 1) (o := { dst := some 20, op := Op.load 28 (Operand.tmp 19), type := 28, pos := "l06_bounds.go:158", after := #[{ on := 0, ground := Ground.data }], guard := none }) rfl (fun K hK => ?_) (AllReadyH.cons (i := 4) (o := { dst := some 23, op := Op.buildSlice 28 1 #[(0, Operand.tmp 22)], type := 28, pos := "l06_bounds.go:158", after := #[{ on := 3, ground := Ground.data }], guard := none }) rfl (fun K hK => ?_) AllReadyH.nil)
          · have q1 := (unhide HP).2.2.2.1.2.1
            go_simp
            refine hK.out _ _ trivial (fun hHeld => ?_)
            clear hK K q1
            try simp only [Act.put, List.setIfInBounds_toArray, List.set_cons_zero, List.set_cons_succ]
            refine wpAnyH_ready (rs := [4]) (by kernel_rfl) (by simp) ?_
            refine AllReadyH.cons (i := 4) (o := { dst := some 23, op := Op.buildSlice 28 1 #[(0, Operand.tmp 22)], type := 28, pos := "l06_bounds.go:158", after := #[{ on := 3, ground := Ground.data }], guard := none }) rfl (fun K hK => ?_) AllReadyH.nil
            go_simp
            refine hK.out _ _ trivial (fun hHeld => ?_)
            clear hK K
            try simp only [Act.put, List.setIfInBounds_toArray, List.set_cons_zero, List.set_cons_succ]
            refine wpAnyH_ready (rs := [5]) (by kernel_rfl) (by simp) ?_
            refine AllReadyH.cons (i := 5) (o := { dst := some 24, op := Op.call { callee := Callee.builtin Builtin.append, args := #[Operand.tmp 20, Operand.tmp 23], argTypes := #[28, 28] }, type := 28, pos := "l06_bounds.go:158", after := #[{ on := 1, ground := Ground.data }, { on := 4, ground := Ground.data }, { on := 3, ground := Ground.chain }], guard := none }) rfl (fun K hK => ?_) AllReadyH.nil
            refine step_app2 _ (by rfl) _ _ _ (by rfl) (ge + 1) 47 inf (.agg #[.int .i64 0, .int .i64 0]) 2 16 Tryd.underlying28 hi hz0 hz1 hz2 rfl (by decide) (.slice oa xs.length ca) xs.length (cellsV xs) (by rfl) (World.ownsRow.alloc ((unhide HP).2.2.2.2.1) _) ⟨_, 0, none⟩ 1 1 [.int .i64 l, .int .i64 g] (by rfl) rfl (World.news_of_block (heap_alloc_new _ _)) (one2' _ _) (by unfold maxLen; omega) (by omega) (by simp; omega) ?_
            intro o' c' w5 hown hgrow hloc
            refine hK.out _ _ trivial (fun hHeld => ?_)
            clear hK K
            obtain ⟨hp2, hc2⟩ := EnP.app1 ((unhide HP).alloc (Obj.cells #[.int .i64 l, .int .i64 g] 47)) (unhide HN) (by simp; omega) hown hgrow hloc
            have HP2 := hide hp2
            have HC2 := hide hc2
            have hB5 : ge + 1 ≤ w5.heap.size := by have := hgrow.size; simp at this; omega
            clear hp2 hc2 hown hgrow hloc HP hBu
            try simp only [Act.put, List.setIfInBounds_toArray, List.set_cons_zero, List.set_cons_succ]
            refine wpAnyH_take (i := 6) (oi := { dst := some 25, op := Op.fieldAddr 30 (Operand.tmp 5) 1, type := 0, pos := "l06_bounds.go:158", after := #[{ on := 0, ground := Ground.phase }, { on := 1, ground := Ground.phase }, { on := 2, ground := Ground.phase }, { on := 3, ground := Ground.phase }, { on := 4, ground := Ground.phase }, { on := 5, ground := Ground.phase }], guard := none }) (v := ?_) rfl (by kernel_rfl) (by kernel_rfl) (by kernel_rfl) (fun _ _ _ h => h) (Or.inl ⟨by rfl, ?_⟩) (by assumption) ?_
            rotate_left
            · (intro w9 hSw; (try dsimp only at hSw); go_simp; try with_reducible rfl)
            try simp only [Act.put, List.setIfInBounds_toArray, List.set_cons_zero, List.set_cons_succ]
            refine wpAnyH_ready (rs := [7]) (by kernel_rfl) (by simp) ?_
            refine AllReadyH.cons (i := 7) (o := { dst := none, op := Op.store 28 (Operand.tmp 25) (Operand.tmp 24), type := 0, pos := "l06_bounds.go:158", after := #[{ on := 6, ground := Ground.data }, { on := 5, ground := Ground.data }, { on := 5, ground := Ground.chain }, { on := 0, ground := Ground.phase }, { on := 1, ground := Ground.phase }, { on := 2, ground := Ground.phase }, { on := 3, ground := Ground.phase }, { on := 4, ground := Ground.phase }, { on := 5, ground := Ground.phase }], guard := none }) rfl (fun K hK => ?_) AllReadyH.nil
            have q0 := (unhide HC2).1
            have q1 := (unhide HC2).2.1
            have q2 := (unhide HC2).2.2.1
            have f0 := (unhide HC2).2.2.2 0
            have f1 := (unhide HC2).2.2.2 1
            have f2 := (unhide HC2).2.2.2 2
            go_simp
            refine hK.out _ _ trivial (fun hHeld => ?_)
            clear hK K q0 q1 q2 f0 f1 f2
            try simp only [Act.put, List.setIfInBounds_toArray, List.set_cons_zero, List.set_cons_succ]
            refine wpAnyH_done (by kernel_rfl) ?_ _
            have hB6 : ge + 1 ≤ (w5.setCell ⟨ge, 1, none⟩ (.slice o' (xs.length + 1) c')).heap.size := by rw [size_setCell]; exact hB5
            go_wp2
            go_roundw
            case rel => exact ⟨xs ++ [(l, g)], o', c', by simp; omega, by simp only [List.length_append, List.length_cons, List.length_nil]; go_num, unhide HP2, hB6, (unhide HIX).snoc (unhide HLG).1 (unhide HLG).2⟩
            case measure => simp [intOf]; omega
          · go_simp
            refine hK.out _ _ trivial (fun hHeld => ?_)
            clear hK K
            try simp only [Act.put, List.setIfInBounds_toArray, List.set_cons_zero, List.set_cons_succ]
            refine wpAnyH_ready (rs := [1]) (by kernel_rfl) (by simp) ?_
            refine AllReadyH.cons (i := 1) (o := { dst := some 20, op := Op.load 28 (Operand.tmp 19), type := 28, pos := "l06_bounds.go:158", after := #[{ on := 0, ground := Ground.data }], guard := none }) rfl (fun K hK => ?_) AllReadyH.nil
            have q1 := (unhide HP).2.2.2.1.2.1
            have q2 := ((unhide HP).alloc (Obj.cells #[.int .i64 l, .int .i64 g] 47)).2.2.2.1.2.1
            go_simp
            refine hK.out _ _ trivial (fun hHeld => ?_)
            clear hK K q1 q2
            try simp only [Act.put, List.setIfInBounds_toArray, List.set_cons_zero, List.set_cons_succ]
            refine wpAnyH_ready (rs := [5]) (by kernel_rfl) (by simp) ?_
            refine AllReadyH.cons (i := 5) (o := { dst := some 24, op := Op.call { callee := Callee.builtin Builtin.append, args := #[Operand.tmp 20, Operand.tmp 23], argTypes := #[28, 28] }, type := 28, pos := "l06_bounds.go:158", after := #[{ on := 1, ground := Ground.data }, { on := 4, ground := Ground.data }, { on := 3, ground := Ground.chain }], guard := none }) rfl (fun K hK => ?_) AllReadyH.nil
            refine step_app2 _ (by rfl) _ _ _ (by rfl) (ge + 1) 47 inf (.agg #[.int .i64 0, .int .i64 0]) 2 16 Tryd.underlying28 hi hz0 hz1 hz2 rfl (by decide) (.slice oa xs.length ca) xs.length (cellsV xs) (by rfl) (World.ownsRow.alloc ((unhide HP).2.2.2.2.1) _) ⟨_, 0, none⟩ 1 1 [.int .i64 l, .int .i64 g] (by rfl) rfl (World.news_of_block (heap_alloc_new _ _)) (one2' _ _) (by unfold maxLen; omega) (by omega) (by simp; omega) ?_
            intro o' c' w5 hown hgrow hloc
            refine hK.out _ _ trivial (fun hHeld => ?_)
            clear hK K
            obtain ⟨hp2, hc2⟩ := EnP.app1 ((unhide HP).alloc (Obj.cells #[.int .i64 l, .int .i64 g] 47)) (unhide HN) (by simp; omega) hown hgrow hloc
            have HP2 := hide hp2
            have HC2 := hide hc2
            have hB5 : ge + 1 ≤ w5.heap.size := by have := hgrow.size; simp at this; omega
            clear hp2 hc2 hown hgrow hloc HP hBu
            try simp only [Act.put, List.setIfInBounds_toArray, List.set_cons_zero, List.set_cons_succ]
            refine wpAnyH_take (i := 6) (oi := { dst := some 25, op := Op.fieldAddr 30 (Operand.tmp 5) 1, type := 0, pos := "l06_bounds.go:158", after := #[{ on := 0, ground := Ground.phase }, { on := 1, ground := Ground.phase }, { on := 2, ground := Ground.phase }, { on := 3, ground := Ground.phase }, { on := 4, ground := Ground.phase }, { on := 5, ground := Ground.phase }], guard := none }) (v := ?_) rfl (by kernel_rfl) (by kernel_rfl) (by kernel_rfl) (fun _ _ _ h => h) (Or.inl ⟨by rfl, ?_⟩) (by assumption) ?_
            rotate_left
            · (intro w9 hSw; (try dsimp only at hSw); go_simp; try with_reducible rfl)
            try simp only [Act.put, List.setIfInBounds_toArray, List.set_cons_zero, List.set_cons_succ]
            refine wpAnyH_ready (rs := [7]) (by kernel_rfl) (by simp) ?_
            refine AllReadyH.cons (i := 7) (o := { dst := none, op := Op.store 28 (Operand.tmp 25) (Operand.tmp 24), type := 0, pos := "l06_bounds.go:158", after := #[{ on := 6, ground := Ground.data }, { on := 5, ground := Ground.data }, { on := 5, ground := Ground.chain }, { on := 0, ground := Ground.phase }, { on := 1, ground := Ground.phase }, { on := 2, ground := Ground.phase }, { on := 3, ground := Ground.phase }, { on := 4, ground := Ground.phase }, { on := 5, ground := Ground.phase }], guard := none }) rfl (fun K hK => ?_) AllReadyH.nil
            have q0 := (unhide HC2).1
            have q1 := (unhide HC2).2.1
            have q2 := (unhide HC2).2.2.1
            have f0 := (unhide HC2).2.2.2 0
            have f1 := (unhide HC2).2.2.2 1
            have f2 := (unhide HC2).2.2.2 2
            go_simp
            refine hK.out _ _ trivial (fun hHeld => ?_)
            clear hK K q0 q1 q2 f0 f1 f2
            try simp only [Act.put, List.setIfInBounds_toArray, List.set_cons_zero, List.set_cons_succ]
            refine wpAnyH_done (by kernel_rfl) ?_ _
            have hB6 : ge + 1 ≤ (w5.setCell ⟨ge, 1, none⟩ (.slice o' (xs.length + 1) c')).heap.size := by rw [size_setCell]; exact hB5
            go_wp2
            go_roundw
            case rel => exact ⟨xs ++ [(l, g)], o', c', by simp; omega, by simp only [List.length_append, List.length_cons, List.length_nil]; go_num, unhide HP2, hB6, (unhide HIX).snoc (unhide HLG).1 (unhide HLG).2⟩
            case measure => simp [intOf]; omega
      · have hke : xs.length = n1 := by omega
        have hlt' : ¬ (xs.length : Int) < (n1 : Int) := by omega
        have HKE := hide hke
        clear hke hk hlt
        go_upto_region 8 with fail
        clear d0 hlt'
        generalize wr = wo at HP HBW ⊢
        have d2 := (unhide HP).2.1.2.2.1
        go_wp2
        clear d2
        go_loopw [7] (fun i wr => ∃ (ys : List (Int × Int)) (ob : Option Addr) (cb : Nat), ys.length ≤ n3 ∧ i = .int .i64 ys.length ∧ EnP w b a len cap w.heap.size (w.heap.size + 1) ge (ge + 1) (.slice a1 n1 c1) (.slice a2 n2 c2) (.slice a3 n3 c3) oa ca ob cb xs ys wr ∧ ge + 1 ≤ wr.heap.size ∧ InL ys) (fun i _ => n3 - (intOf i).toNat)
        case atStart => exact ⟨[], none, 0, Nat.zero_le _, rfl, unhide HP, unhide HBW, InL.nil⟩
        case round =>
          clear HP HBW
          obtain ⟨ys, ob, cb, hk, rfl, hp, hbw, hin⟩ := hrel
          have HP := hide hp
          have HBW := hide hbw
          have d2 := hp.2.1.2.2.1
          have HIY := hide hin
          clear hp hbw hin
          by_cases hlt : ys.length < n3
          · go_upto_region 11 with fail
            clear d2
            have HP := hide (EnP.drew (unhide HP))
            obtain ⟨wz, hwz⟩ : ∃ x, x = wr.drew := ⟨_, rfl⟩
            refine wp_region_held_drew (S := fun _ => True) (by kernel_rfl) trivial (fun hHeld => ?_)
            rw [← hwz] at HP ⊢
            have hBz : ge + 1 ≤ wz.heap.size := by rw [hwz]; exact unhide HBW
            clear hwz
            refine wpAnyH_take (i := 0) (oi := { dst := some 33, op := Op.fieldAddr 30 (Operand.tmp 5) 2, type := 0, pos := "l06_bounds.go:161", after := #[], guard := none }) (v := ?_) rfl (by kernel_rfl) (by kernel_rfl) (by kernel_rfl) (fun _ _ _ h => h) (Or.inl ⟨by rfl, ?_⟩) (by assumption) ?_
            rotate_left
            · (intro w9 hSw; (try dsimp only at hSw); go_simp; try with_reducible rfl)
            try simp only [Act.put, List.setIfInBounds_toArray, List.set_cons_zero, List.set_cons_succ]
            refine wpAnyH_take (i := 2) (oi := { dst := some 35, op := Op.move (Operand.tmp 0), type := 60, pos := "l06_bounds.go:161", after := #[], guard := none }) (v := ?_) rfl (by kernel_rfl) (by kernel_rfl) (by kernel_rfl) (fun _ _ _ h => h) (Or.inl ⟨by rfl, ?_⟩) (by assumption) ?_
            rotate_left
            · (intro w9 hSw; (try dsimp only at hSw); go_simp; try with_reducible rfl)
            try simp only [Act.put, List.setIfInBounds_toArray, List.set_cons_zero, List.set_cons_succ]
            refine wpAnyH_ready (rs := [1, 3]) (by kernel_rfl) (by simp) ?_
            refine AllReadyH.cons (i := 1) (o := { dst := some 34, op := Op.load 28 (Operand.tmp 33), type := 28, pos := "l06_bounds.go:161", after := #[{ on := 0, ground := Ground.data }], guard := none }) rfl (fun K hK => ?_) (AllReadyH.cons (i := 3) (o := { dst := some 36, op := Op.call { callee := Callee.value (Operand.func 57), args := #[Operand.tmp 35], argTypes := #[60] }, type := 47, pos := "l06_bounds.go:161", after := #[{ on := 2, ground := Ground.data }], guard := none }) rfl (fun K hK => ?_) AllReadyH.nil)
            · have q1 := (unhide HP).2.2.2.1.2.2.1
              go_simp
              refine hK.out _ _ trivial (fun hHeld => ?_)
              clear hK K q1
              try simp only [Act.put, List.setIfInBounds_toArray, List.set_cons_zero, List.set_cons_succ]
              refine wpAnyH_ready (rs := [3]) (by kernel_rfl) (by simp) ?_
              refine AllReadyH.cons (i := 3) (o := { dst := some 36, op := Op.call { callee := Callee.value (Operand.func 57), args := #[Operand.tmp 35], argTypes := #[60] }, type := 47, pos := "l06_bounds.go:161", after := #[{ on := 2, ground := Ground.data }], guard := none }) rfl (fun K hK => ?_) AllReadyH.nil
              go_simp
              refine (small_c _ _ _ _ _ (unhide HP).1.1).mono ?_
              rintro e u9 ⟨l, g, rfl, lin, gin, hl⟩
              have hBu : ge + 1 ≤ u9.heap.size := Nat.le_trans hBz hl.2.size
              have HP := hide ((unhide HP).kp (unhide HN) hl)
              have HLG := hide (And.intro lin gin)
              clear hl lin gin hBz
              refine hK.out _ _ trivial (fun hHeld => ?_)
              clear hK K
              try simp only [Act.put, List.setIfInBounds_toArray, List.set_cons_zero, List.set_cons_succ]
              refine wpAnyH_ready (rs := [4]) (by kernel_rfl) (by simp) ?_
              refine AllReadyH.cons (i := 4) (o := { dst := some 37, op := Op.buildSlice 28 1 #[(0, Operand.tmp 36)], type := 28, pos := "l06_bounds.go:161", after := #[{ on := 3, ground := Ground.data }], guard := none }) rfl (fun K hK => ?_) AllReadyH.nil
              go_simp
              refine hK.out _ _ trivial (fun hHeld => ?_)
              clear hK K
              try simp only [Act.put, List.setIfInBounds_toArray, List.set_cons_zero, List.set_cons_succ]
              refine wpAnyH_ready (rs := [5]) (by kernel_rfl) (by simp) ?_
              refine AllReadyH.cons (i := 5) (o := { dst := some 38, op := Op.call { callee := Callee.builtin Builtin.append, args := #[Operand.tmp 34, Operand.tmp 37], argTypes := #[28, 28] }, type := 28, pos := "l06_bounds.go:161", after := #[{ on := 1, ground := Ground.data }, { on := 4, ground := Ground.data }, { on := 3, ground := Ground.chain }], guard := none }) rfl (fun K hK => ?_) AllReadyH.nil
              refine step_app2 _ (by rfl) _ _ _ (by rfl) (ge + 1) 47 inf (.agg #[.int .i64 0, .int .i64 0]) 2 16 Tryd.underlying28 hi hz0 hz1 hz2 rfl (by decide) (.slice ob ys.length cb) ys.length (cellsV ys) (by rfl) (World.ownsRow.alloc ((unhide HP).2.2.2.2.2.1) _) ⟨_, 0, none⟩ 1 1 [.int .i64 l, .int .i64 g] (by rfl) rfl (World.news_of_block (heap_alloc_new _ _)) (one2' _ _) (by unfold maxLen; omega) (by omega) (by simp; omega) ?_
              intro o' c' w5 hown hgrow hloc
              refine hK.out _ _ trivial (fun hHeld => ?_)
              clear hK K
              obtain ⟨hp2, hc2⟩ := EnP.app2 ((unhide HP).alloc (Obj.cells #[.int .i64 l, .int .i64 g] 47)) (unhide HN) (by simp; omega) hown hgrow hloc
              have HP2 := hide hp2
              have HC2 := hide hc2
              have hB5 : ge + 1 ≤ w5.heap.size := by have := hgrow.size; simp at this; omega
              clear hp2 hc2 hown hgrow hloc HP hBu
              try simp only [Act.put, List.setIfInBounds_toArray, List.set_cons_zero, List.set_cons_succ]
              refine wpAnyH_take (i := 6) (oi := { dst := some 39, op := Op.fieldAddr 30 (Operand.tmp 5) 2, type := 0, pos := "l06_bounds.go:161", after := #[{ on := 0, ground := Ground.phase }, { on := 1, ground := Ground.phase }, { on := 2, ground := Ground.phase }, { on := 3, ground := Ground.phase }, { on := 4, ground := Ground.phase }, { on := 5, ground := Ground.phase }], guard := none }) (v := ?_) rfl (by kernel_rfl) (by kernel_rfl) (by kernel_rfl) (fun _ _ _ h => h) (Or.inl ⟨by rfl, ?_⟩) (by assumption) ?_
              rotate_left
              · (intro w9 hSw; (try dsimp only at hSw); go_simp; try with_reducible rfl)
              try simp only [Act.put, List.setIfInBounds_toArray, List.set_cons_zero, List.set_cons_succ]
              refine wpAnyH_ready (rs := [7]) (by kernel_rfl) (by simp) ?_
              refine AllReadyH.cons (i := 7) (o := { dst := none, op := Op.store 28 (Operand.tmp 39) (Operand.tmp 38), type := 0, pos := "l06_bounds.go:161", after := #[{ on := 6, ground := Ground.data }, { on := 5, ground := Ground.data }, { on := 5, ground := Ground.chain }, { on := 0, ground := Ground.phase }, { on := 1, ground := Ground.phase }, { on := 2, ground := Ground.phase }, { on := 3, ground := Ground.phase }, { on := 4, ground := Ground.phase }, { on := 5, ground := Ground.phase }], guard := none }) rfl (fun K hK => ?_) AllReadyH.nil
              have q0 := (unhide HC2).1
              have q1 := (unhide HC2).2.1
              have q2 := (unhide HC2).2.2.1
              have f0 := (unhide HC2).2.2.2 0
              have f1 := (unhide HC2).2.2.2 1
              have f2 := (unhide HC2).2.2.2 2
              go_simp
              refine hK.out _ _ trivial (fun hHeld => ?_)
              clear hK K q0 q1 q2 f0 f1 f2
              try simp only [Act.put, List.setIfInBounds_toArray, List.set_cons_zero, List.set_cons_succ]
              refine wpAnyH_done (by kernel_rfl) ?_ _
              have hB6 : ge + 1 ≤ (w5.setCell ⟨ge, 2, none⟩ (.slice o' (ys.length + 1) c')).heap.size := by rw [size_setCell]; exact hB5
              go_wp2
              go_roundw
              case rel => exact ⟨ys ++ [(l, g)], o', c', by simp; omega, by simp only [List.length_append, List.length_cons, List.length_nil]; go_num, unhide HP2, hB6, (unhide HIY).snoc (unhide HLG).1 (unhide HLG).2⟩
              case measure => simp [intOf]; omega
            · go_simp
              refine (small_c _ _ _ _ _ (unhide HP).1.1).mono ?_
              rintro e u9 ⟨l, g, rfl, lin, gin, hl⟩
              have hBu : ge + 1 ≤ u9.heap.size := Nat.le_trans hBz hl.2.size
              have HP := hide ((unhide HP).kp (unhide HN) hl)
              have HLG := hide (And.intro lin gin)
              clear hl lin gin hBz
              refine hK.out _ _ trivial (fun hHeld => ?_)
              clear hK K
              try simp only [Act.put, List.setIfInBounds_toArray, List.set_cons_zero, List.set_cons_succ]
              refine wpAnyH_ready (rs := [1, 4]) (by kernel_rfl) (by simp) ?_
              refine AllReadyH.cons (i := 1) (o := { dst := some 34, op := Op.load 28 (Operand.tmp 33), type := 28, pos := "l06_bounds.go:161", after := #[{ on := 0, ground := Ground.data }], guard := none }) rfl (fun K hK => ?_) (AllReadyH.cons (i := 4) (o := { dst := some 37, op := Op.buildSlice 28 1 #[(0, Operand.tmp 36)], type := 28, pos := "l06_bounds.go:161", after := #[{ on := 3, ground := Ground.data }], guard := none }) rfl (fun K hK => ?_) AllReadyH.nil)
              · have q1 := (unhide HP).2.2.2.1.2.2.1
                go_simp
                refine hK.out _ _ trivial (fun hHeld => ?_)
                clear hK K q1
                try simp only [Act.put, List.setIfInBounds_toArray, List.set_cons_zero, List.set_cons_succ]
                refine wpAnyH_ready (rs := [4]) (by kernel_rfl) (by simp) ?_
                refine AllReadyH.cons (i := 4) (o := { dst := some 37, op := Op.buildSlice 28 1 #[(0, Operand.tmp 36)], type := 28, pos := "l06_bounds.go:161", after := #[{ on := 3, ground := Ground.data }], guard := none }) rfl (fun K hK => ?_) AllReadyH.nil
                go_simp
                refine hK.out _ _ trivial (fun hHeld => ?_)
                clear hK K
                try simp only [Act.put, List.setIfInBounds_toArray, List.set_cons_zero, List.set_cons_succ]
                refine wpAnyH_ready (rs := [5]) (by kernel_rfl) (by simp) ?_
                refine AllReadyH.cons (i := 5) (o := { dst := some 38, op := Op.call { callee := Callee.builtin Builtin.append, args := #[Operand.tmp 34, Operand.tmp 37], argTypes := #[28, 28] }, type := 28, pos := "l06_bounds.go:161", after := #[{ on := 1, ground := Ground.data }, { on := 4, ground := Ground.data }, { on := 3, ground := Ground.chain }], guard := none }) rfl (fun K hK => ?_) AllReadyH.nil
                refine step_app2 _ (by rfl) _ _ _ (by rfl) (ge + 1) 47 inf (.agg #[.int .i64 0, .int .i64 0]) 2 16 Tryd.underlying28 hi hz0 hz1 hz2 rfl (by decide) (.slice ob ys.length cb) ys.length (cellsV ys) (by rfl) (World.ownsRow.alloc ((unhide HP).2.2.2.2.2.1) _) ⟨_, 0, none⟩ 1 1 [.int .i64 l, .int .i64 g] (by rfl) rfl (World.news_of_block (heap_alloc_new _ _)) (one2' _ _) (by unfold maxLen; omega) (by omega) (by simp; omega) ?_
                intro o' c' w5 hown hgrow hloc
                refine hK.out _ _ trivial (fun hHeld => ?_)
                clear hK K
                obtain ⟨hp2, hc2⟩ := EnP.app2 ((unhide HP).alloc (Obj.cells #[.int .i64 l, .int .i64 g] 47)) (unhide HN) (by simp; omega) hown hgrow hloc
                have HP2 := hide hp2
                have HC2 := hide hc2
                have hB5 : ge + 1 ≤ w5.heap.size := by have := hgrow.size; simp at this; omega
                clear hp2 hc2 hown hgrow hloc HP hBu
                try simp only [Act.put, List.setIfInBounds_toArray, List.set_cons_zero, List.set_cons_succ]
                refine wpAnyH_take (i := 6) (oi := { dst := some 39, op := Op.fieldAddr 30 (Operand.tmp 5) 2, type := 0, pos := "l06_bounds.go:161", after := #[{ on := 0, ground := Ground.phase }, { on := 1, ground := Ground.phase }, { on := 2, ground := Ground.phase }, { on := 3, ground := Ground.phase }, { on := 4, ground := Ground.phase }, { on := 5, ground := Ground.phase }], guard := none }) (v := ?_) rfl (by kernel_rfl) (by kernel_rfl) (by kernel_rfl) (fun _ _ _ h => h) (Or.inl ⟨by rfl, ?_⟩) (by assumption) ?_
                rotate_left
                · (intro w9 hSw; (try dsimp only at hSw); go_simp; try with_reducible rfl)
                try simp only [Act.put, List.setIfInBounds_toArray, List.set_cons_zero, List.set_cons_succ]
                refine wpAnyH_ready (rs := [7]) (by kernel_rfl) (by simp) ?_
                refine AllReadyH.cons (i := 7) (o := { dst := none, op := Op.store 28 (Operand.tmp 39) (Operand.tmp 38), type := 0, pos := "l06_bounds.go:161", after := #[{ on := 6, ground := Ground.data }, { on := 5, ground := Ground.data }, { on := 5, ground := Ground.chain }, { on := 0, ground := Ground.phase }, { on := 1, ground := Ground.phase }, { on := 2, ground := Ground.phase }, { on := 3, ground := Ground.phase }, { on := 4, ground := Ground.phase }, { on := 5, ground := Ground.phase }], guard := none }) rfl (fun K hK => ?_) AllReadyH.nil
                have q0 := (unhide HC2).1
                have q1 := (unhide HC2).2.1
                have q2 := (unhide HC2).2.2.1
                have f0 := (unhide HC2).2.2.2 0
                have f1 := (unhide HC2).2.2.2 1
                have f2 := (unhide HC2).2.2.2 2
                go_simp
                refine hK.out _ _ trivial (fun hHeld => ?_)
                clear hK K q0 q1 q2 f0 f1 f2
                try simp only [Act.put, List.setIfInBounds_toArray, List.set_cons_zero, List.set_cons_succ]
                refine wpAnyH_done (by kernel_rfl) ?_ _
                have hB6 : ge + 1 ≤ (w5.setCell ⟨ge, 2, none⟩ (.slice o' (ys.length + 1) c')).heap.size := by rw [size_setCell]; exact hB5
                go_wp2
                go_roundw
                case rel => exact ⟨ys ++ [(l, g)], o', c', by simp; omega, by simp only [List.length_append, List.length_cons, List.length_nil]; go_num, unhide HP2, hB6, (unhide HIY).snoc (unhide HLG).1 (unhide HLG).2⟩
                case measure => simp [intOf]; omega
              · go_simp
                refine hK.out _ _ trivial (fun hHeld => ?_)
                clear hK K
                try simp only [Act.put, List.setIfInBounds_toArray, List.set_cons_zero, List.set_cons_succ]
                refine wpAnyH_ready (rs := [1]) (by kernel_rfl) (by simp) ?_
                refine AllReadyH.cons (i := 1) (o := { dst := some 34, op := Op.load 28 (Operand.tmp 33), type := 28, pos := "l06_bounds.go:161", after := #[{ on := 0, ground := Ground.data }], guard := none }) rfl (fun K hK => ?_) AllReadyH.nil
                have q1 := (unhide HP).2.2.2.1.2.2.1
                have q2 := ((unhide HP).alloc (Obj.cells #[.int .i64 l, .int .i64 g] 47)).2.2.2.1.2.2.1
                go_simp
                refine hK.out _ _ trivial (fun hHeld => ?_)
                clear hK K q1 q2
                try simp only [Act.put, List.setIfInBounds_toArray, List.set_cons_zero, List.set_cons_succ]
                refine wpAnyH_ready (rs := [5]) (by kernel_rfl) (by simp) ?_
                refine AllReadyH.cons (i := 5) (o := { dst := some 38, op := Op.call { callee := Callee.builtin Builtin.append, args := #[Operand.tmp 34, Operand.tmp 37], argTypes := #[28, 28] }, type := 28, pos := "l06_bounds.go:161", after := #[{ on := 1, ground := Ground.data }, { on := 4, ground := Ground.data }, { on := 3, ground := Ground.chain }], guard := none }) rfl (fun K hK => ?_) AllReadyH.nil
                refine step_app2 _ (by rfl) _ _ _ (by rfl) (ge + 1) 47 inf (.agg #[.int .i64 0, .int .i64 0]) 2 16 Tryd.underlying28 hi hz0 hz1 hz2 rfl (by decide) (.slice ob ys.length cb) ys.length (cellsV ys) (by rfl) (World.ownsRow.alloc ((unhide HP).2.2.2.2.2.1) _) ⟨_, 0, none⟩ 1 1 [.int .i64 l, .int .i64 g] (by rfl) rfl (World.news_of_block (heap_alloc_new _ _)) (one2' _ _) (by unfold maxLen; omega) (by omega) (by simp; omega) ?_
                intro o' c' w5 hown hgrow hloc
                refine hK.out _ _ trivial (fun hHeld => ?_)
                clear hK K
                obtain ⟨hp2, hc2⟩ := EnP.app2 ((unhide HP).alloc (Obj.cells #[.int .i64 l, .int .i64 g] 47)) (unhide HN) (by simp; omega) hown hgrow hloc
                have HP2 := hide hp2
                have HC2 := hide hc2
                have hB5 : ge + 1 ≤ w5.heap.size := by have := hgrow.size; simp at this; omega
                clear hp2 hc2 hown hgrow hloc HP hBu
                try simp only [Act.put, List.setIfInBounds_toArray, List.set_cons_zero, List.set_cons_succ]
                refine wpAnyH_take (i := 6) (oi := { dst := some 39, op := Op.fieldAddr 30 (Operand.tmp 5) 2, type := 0, pos := "l06_bounds.go:161", after := #[{ on := 0, ground := Ground.phase }, { on := 1, ground := Ground.phase }, { on := 2, ground := Ground.phase }, { on := 3, ground := Ground.phase }, { on := 4, ground := Ground.phase }, { on := 5, ground := Ground.phase }], guard := none }) (v := ?_) rfl (by kernel_rfl) (by kernel_rfl) (by kernel_rfl) (fun _ _ _ h => h) (Or.inl ⟨by rfl, ?_⟩) (by assumption) ?_
                rotate_left
                · (intro w9 hSw; (try dsimp only at hSw); go_simp; try with_reducible rfl)
                try simp only [Act.put, List.setIfInBounds_toArray, List.set_cons_zero, List.set_cons_succ]
                refine wpAnyH_ready (rs := [7]) (by kernel_rfl) (by simp) ?_
                refine AllReadyH.cons (i := 7) (o := { dst := none, op := Op.store 28 (Operand.tmp 39) (Operand.tmp 38), type := 0, pos := "l06_bounds.go:161", after := #[{ on := 6, ground := Ground.data }, { on := 5, ground := Ground.data }, { on := 5, ground := Ground.chain }, { on := 0, ground := Ground.phase }, { on := 1, ground := Ground.phase }, { on := 2, ground := Ground.phase }, { on := 3, ground := Ground.phase }, { on := 4, ground := Ground.phase }, { on := 5, ground := Ground.phase }], guard := none }) rfl (fun K hK => ?_) AllReadyH.nil
                have q0 := (unhide HC2).1
                have q1 := (unhide HC2).2.1
                have q2 := (unhide HC2).2.2.1
                have f0 := (unhide HC2).2.2.2 0
                have f1 := (unhide HC2).2.2.2 1
                have f2 := (unhide HC2).2.2.2 2
                go_simp
                refine hK.out _ _ trivial (fun hHeld => ?_)
                clear hK K q0 q1 q2 f0 f1 f2
                try simp only [Act.put, List.setIfInBounds_toArray, List.set_cons_zero, List.set_cons_succ]
                refine wpAnyH_done (by kernel_rfl) ?_ _
                have hB6 : ge + 1 ≤ (w5.setCell ⟨ge, 2, none⟩ (.slice o' (ys.length + 1) c')).heap.size := by rw [size_setCell]; exact hB5
                go_wp2
                go_roundw
                case rel => exact ⟨ys ++ [(l, g)], o', c', by simp; omega, by simp only [List.length_append, List.length_cons, List.length_nil]; go_num, unhide HP2, hB6, (unhide HIY).snoc (unhide HLG).1 (unhide HLG).2⟩
                case measure => simp [intOf]; omega
          · have hlt' : ¬ (ys.length : Int) < (n3 : Int) := by omega
            have r0 := (unhide HP).2.2.1.1
            have r1 := (unhide HP).2.2.1.2.1
            have r2 := (unhide HP).2.2.1.2.2.1
            have f0 := (unhide HP).2.2.1.2.2.2 0
            have f1 := (unhide HP).2.2.1.2.2.2 1
            have f2 := (unhide HP).2.2.1.2.2.2 2
            have e0 := (unhide HP).2.2.2.1.1
            have e1 := (unhide HP).2.2.2.1.2.1
            have e2 := (unhide HP).2.2.2.1.2.2.1
            have hge := (unhide HN).2.2.2.2.1
            go_wp2
            refine bodyPost_ret (v := .agg #[.bool true, .slice oa xs.length ca, .slice ob ys.length cb]) (by simp [results, Tryd.results30, go_sem, r0, r1, r2]) rfl ⟨true, oa, ca, ob, cb, xs, ys, rfl, ?_, ⟨by have := unhide HKE; omega, unhide HIX⟩, ⟨by omega, unhide HIY⟩, (fun _ => ⟨unhide HKE, by omega⟩), ((((unhide HP).1.set (by omega) hb (unhide HC) _).set (by omega) hb (unhide HC) _).set (by omega) hb (unhide HC) _)⟩
            exact RowsE.down ((((unhide HP).2.2.2.2.set (by omega)).set (by omega)).set (by omega)) (B' := w.heap.size) (by omega)
  · have r0 := (unhide HT1).1
    have r1 := (unhide HT1).2.1
    have r2 := (unhide HT1).2.2.1
    have f0 := (unhide HT1).2.2.2 0
    have f1 := (unhide HT1).2.2.2 1
    have f2 := (unhide HT1).2.2.2 2
    go_wp2
    exact bodyPost_ret (v := .agg #[.bool false, .slice none 0 0, .slice none 0 0]) (by simp [results, Tryd.results30, go_sem, r0, r1, r2]) rfl ⟨false, none, 0, none, 0, [], [], rfl, ⟨World.ownsRow_nil _ _ _ _, World.ownsRow_nil _ _ _ _, fun p q hp => by cases hp⟩, ⟨by simp, InL.nil⟩, ⟨by simp, InL.nil⟩, (fun e => by cases e), ((((unhide HL0).set (by omega) hb (unhide HC) _).set (by omega) hb (unhide HC) _).set (by omega) hb (unhide HC) _)⟩
end Go.Proofs.YthpnbmdmkmkicaaDoor
