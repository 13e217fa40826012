/- Proved here: whatever the arguments, a call of laws.FnExactIvRem returns true and leaves its arguments as they were. No condition beside the row's own. -/
import Derived.Test.YtojakiiohbmlaaaRows
import Derived.WalkKit
import Derived.ProofKit
import Derived.OpenShut
import Derived.ShutString
import Derived.ChangeOld
import Derived.Below
import Derived.Lib.SmallJoins
import Derived.Test.YtojakiiohbmlaaaReadC
import Derived.Test.YtojakiiohbmlaaaIvC
import Derived.Test.YtojakiiohbmlaaaIvD
import Derived.Test.YtojakiiohbmlaaaRemC
import Derived.Test.YtojakiiohbmlaaaValC
import Derived.Test.YtojakiiohbmlaaaValD
namespace Go.Proofs.Ytojakiiohbmlaaa.fnExactIvRem
open Go.Iv
open Go.ChangeShapes Go.WideShapes Go.ChangeAt Go.RowKit
open Go.ChangeMaps (open_string shut_string)
set_option linter.unusedVariables false
set_option linter.unusedSimpArgs false

theorem own : ownKnob Try.prog.godebug = none := by kernel_rfl
theorem laidOut : laidOutB Try.prog = true := by kernel_rfl

/-! The walk of the law. -/
set_option maxRecDepth 100000 in
set_option maxHeartbeats 2000000 in
theorem walk (l0 g0 : Int) (l1 g1 : Int) (w : World) (i0 : In l0) (j0 : In g0) (i1 : In l1) (j1 : In g1) :
    Calls Try.prog 12 #[.agg #[.int .i64 l0, .int .i64 g0], .agg #[.int .i64 l1, .int .i64 g1]] w fun e w' => e = .returned (.bool true) ∧ Below w.heap.size w w' := by
  --HEAVY
  obtain ⟨V, hV⟩ : ∃ V, V = remV l0 g0 l1 g1 := ⟨_, rfl⟩
  have HV := hide hV
  have HI := hide (And.intro i0 (And.intro j0 (And.intro i1 j1)))
  clear hV i0 j0 i1 j1
  have hs0 : S2 w w.heap.size w.heap.size l0 g0 l1 g1 ((w.alloc (Obj.cells #[.int .i64 l0, .int .i64 g0] 41)).alloc (Obj.cells #[.int .i64 l1, .int .i64 g1] 41)) := by
    refine ⟨by simp, by simp, by simp, by simp, ((Below.refl _ _).alloc (Nat.le_refl _) _).alloc (by simp) _, by simp; omega, by simp⟩
  go_enter Try.func12, Try.ntmps12
  go_wp2_with fail
  generalize (w.alloc (Obj.cells #[.int .i64 l0, .int .i64 g0] 41)).alloc (Obj.cells #[.int .i64 l1, .int .i64 g1] 41) = W at hs0 ⊢
  go_cut [5] (fun p wc => Res4 w w.heap.size w.heap.size l0 g0 l1 g1 p V.lo V.hi V.live V.al wc)
  case first =>
    have hk0 := hide (S2.drew hs0)
    clear hs0
    obtain ⟨wz0, hw0⟩ : ∃ x, x = W.drew := ⟨_, rfl⟩
    rw [← hw0] at hk0
    refine wp_region_held_drew (S := S2 w w.heap.size w.heap.size l0 g0 l1 g1) (by kernel_rfl) (by rw [← hw0]; exact unhide hk0) (fun hHeld => ?_)
    rw [← hw0] at hHeld ⊢
    clear hw0
    refine wpAnyH_take (i := 0) (oi := { dst := some 7, op := Op.load 41 (Operand.tmp 2), type := 41, pos := "exact.go:1995", after := #[], guard := none }) (v := ?_) rfl (by kernel_rfl) (by kernel_rfl) (by kernel_rfl) (fun _ _ _ h => h) (Or.inl ⟨by rfl, ?_⟩) (by assumption) ?_
    rotate_left
    · (intro w hSw; (try dsimp only at hSw); go_simp; try with_reducible rfl)
    try simp only [Act.put, List.setIfInBounds_toArray, List.set_cons_zero, List.set_cons_succ]
    refine wpAnyH_take (i := 2) (oi := { dst := some 9, op := Op.load 41 (Operand.tmp 3), type := 41, pos := "exact.go:1995", after := #[], guard := none }) (v := ?_) rfl (by kernel_rfl) (by kernel_rfl) (by kernel_rfl) (fun _ _ _ h => h) (Or.inl ⟨by rfl, ?_⟩) (by assumption) ?_
    rotate_left
    · (intro w hSw; (try dsimp only at hSw); go_simp; try with_reducible rfl)
    try simp only [Act.put, List.setIfInBounds_toArray, List.set_cons_zero, List.set_cons_succ]
    refine wpAnyH_ready (rs := [1, 5]) (by kernel_rfl) (by simp) ?_
    refine AllReadyH.cons (i := 1) (o := { dst := some 8, op := Op.call { callee := Callee.value (Operand.func 31), args := #[Operand.tmp 7], argTypes := #[41] }, type := 25, pos := "exact.go:1995", after := #[{ on := 0, ground := Ground.data }], guard := none }) rfl (fun K hK => ?_) (AllReadyH.cons (i := 5) (o := { dst := some 5, op := Op.alloc 50, type := 0, pos := "exact.go:1995", after := #[], guard := none }) rfl (fun K hK => ?_) AllReadyH.nil)
    · go_simp
      refine (toIntervalB_c _ _ _).mono ?_
      rintro e wz1 ⟨rfl, hb1⟩
      have hk1 := hide (S2.call (x0 := l0) (y0 := g0) (x1 := l1) (y1 := g1) (w0 := w) (M := w.heap.size) (B := w.heap.size) hb1 (unhide hk0))
      clear hb1
      refine hK.out _ _ (unhide hk1) (fun hHeld => ?_)
      clear hK K
      try simp only [Act.put, List.setIfInBounds_toArray, List.set_cons_zero, List.set_cons_succ]
      refine wpAnyH_ready (rs := [3, 5]) (by kernel_rfl) (by simp) ?_
      refine AllReadyH.cons (i := 3) (o := { dst := some 10, op := Op.call { callee := Callee.value (Operand.func 31), args := #[Operand.tmp 9], argTypes := #[41] }, type := 25, pos := "exact.go:1995", after := #[{ on := 2, ground := Ground.data }, { on := 1, ground := Ground.chain }], guard := none }) rfl (fun K hK => ?_) (AllReadyH.cons (i := 5) (o := { dst := some 5, op := Op.alloc 50, type := 0, pos := "exact.go:1995", after := #[], guard := none }) rfl (fun K hK => ?_) AllReadyH.nil)
      · go_simp
        refine (toIntervalB_c _ _ _).mono ?_
        rintro e wz2 ⟨rfl, hb2⟩
        have hk2 := hide (S2.call (x0 := l0) (y0 := g0) (x1 := l1) (y1 := g1) (w0 := w) (M := w.heap.size) (B := w.heap.size) hb2 (unhide hk1))
        clear hb2
        refine hK.out _ _ (unhide hk2) (fun hHeld => ?_)
        clear hK K
        try simp only [Act.put, List.setIfInBounds_toArray, List.set_cons_zero, List.set_cons_succ]
        refine wpAnyH_ready (rs := [4, 5]) (by kernel_rfl) (by simp) ?_
        refine AllReadyH.cons (i := 4) (o := { dst := some 11, op := Op.call { callee := Callee.value (Operand.func 35), args := #[Operand.tmp 8, Operand.tmp 10], argTypes := #[25, 25] }, type := 50, pos := "exact.go:1995", after := #[{ on := 1, ground := Ground.data }, { on := 3, ground := Ground.data }, { on := 3, ground := Ground.chain }], guard := none }) rfl (fun K hK => ?_) (AllReadyH.cons (i := 5) (o := { dst := some 5, op := Op.alloc 50, type := 0, pos := "exact.go:1995", after := #[], guard := none }) rfl (fun K hK => ?_) AllReadyH.nil)
        · go_simp
          refine (sIvRem_c _ _ _ _ (unhide HI).1 (unhide HI).2.1 (unhide HI).2.2.1 (unhide HI).2.2.2 _).mono ?_
          rintro e wz3 ⟨rfl, hb3⟩
          rw [← unhide HV]
          have hk3 := hide (S2.call (x0 := l0) (y0 := g0) (x1 := l1) (y1 := g1) (w0 := w) (M := w.heap.size) (B := w.heap.size) hb3 (unhide hk2))
          clear hb3
          refine hK.out _ _ (unhide hk3) (fun hHeld => ?_)
          clear hK K
          try simp only [Act.put, List.setIfInBounds_toArray, List.set_cons_zero, List.set_cons_succ]
          refine wpAnyH_ready (rs := [5]) (by kernel_rfl) (by simp) ?_
          refine AllReadyH.cons (i := 5) (o := { dst := some 5, op := Op.alloc 50, type := 0, pos := "exact.go:1995", after := #[], guard := none }) rfl (fun K hK => ?_) AllReadyH.nil
          have hz4 := hide (Z4.new (unhide hk3) 50)
          have hk4 := hide (S2.alloc (unhide hk3) (Obj.cells #[.int .i64 0, .int .i64 0, .bool false, .int .i64 0] 50))
          go_simp
          refine hK.out _ _ (unhide hk4) (fun hHeld => ?_)
          clear hK K
          try simp only [Act.put, List.setIfInBounds_toArray, List.set_cons_zero, List.set_cons_succ]
          clear hHeld
          generalize hg : wz3.alloc (Obj.cells #[.int .i64 0, .int .i64 0, .bool false, .int .i64 0] 50) = wz4 at hz4 hk4 ⊢
          clear hg hk3
          have hHeld := unhide hk4
          generalize wz3.heap.size = bz at hz4 ⊢
          refine wpAnyH_ready (rs := [6]) (by kernel_rfl) (by simp) ?_
          refine AllReadyH.cons (i := 6) (o := { dst := none, op := Op.store 50 (Operand.tmp 5) (Operand.tmp 11), type := 0, pos := "exact.go:1995", after := #[{ on := 5, ground := Ground.data }, { on := 4, ground := Ground.data }, { on := 4, ground := Ground.chain }, { on := 0, ground := Ground.phase }, { on := 1, ground := Ground.phase }, { on := 2, ground := Ground.phase }, { on := 3, ground := Ground.phase }, { on := 4, ground := Ground.phase }, { on := 5, ground := Ground.phase }], guard := none }) rfl (fun K hK => ?_) AllReadyH.nil
          have hz := unhide hz4
          obtain ⟨⟨c0, c1, c2, c3⟩, z1, z2, z3, z4⟩ := hz
          go_simp
          refine hK.out _ _ ?_ (fun hHeld => ?_)
          · exact S2.set (S2.set (S2.set (S2.set (unhide hk4) z1 z2 _) z1 z2 _) z1 z2 _) z1 z2 _
          clear hK K c0 c1 c2 c3 z4 hHeld
          try simp only [Act.put, List.setIfInBounds_toArray, List.set_cons_zero, List.set_cons_succ]
          refine wpAnyH_done (by kernel_rfl) ?_ _
          go_wp2_with fail
          go_meet
          exact Res4.ofZ (unhide hk4) (unhide hz4) _ _ _ _
        · have hz3 := hide (Z4.new (unhide hk2) 50)
          have hk3 := hide (S2.alloc (unhide hk2) (Obj.cells #[.int .i64 0, .int .i64 0, .bool false, .int .i64 0] 50))
          go_simp
          refine hK.out _ _ (unhide hk3) (fun hHeld => ?_)
          clear hK K
          try simp only [Act.put, List.setIfInBounds_toArray, List.set_cons_zero, List.set_cons_succ]
          clear hHeld
          generalize hg : wz2.alloc (Obj.cells #[.int .i64 0, .int .i64 0, .bool false, .int .i64 0] 50) = wz3 at hz3 hk3 ⊢
          clear hg hk2
          have hHeld := unhide hk3
          generalize wz2.heap.size = bz at hz3 ⊢
          refine wpAnyH_ready (rs := [4]) (by kernel_rfl) (by simp) ?_
          refine AllReadyH.cons (i := 4) (o := { dst := some 11, op := Op.call { callee := Callee.value (Operand.func 35), args := #[Operand.tmp 8, Operand.tmp 10], argTypes := #[25, 25] }, type := 50, pos := "exact.go:1995", after := #[{ on := 1, ground := Ground.data }, { on := 3, ground := Ground.data }, { on := 3, ground := Ground.chain }], guard := none }) rfl (fun K hK => ?_) AllReadyH.nil
          go_simp
          refine (sIvRem_c _ _ _ _ (unhide HI).1 (unhide HI).2.1 (unhide HI).2.2.1 (unhide HI).2.2.2 _).mono ?_
          rintro e wz4 ⟨rfl, hb4⟩
          rw [← unhide HV]
          have hk4 := hide (S2.call (x0 := l0) (y0 := g0) (x1 := l1) (y1 := g1) (w0 := w) (M := w.heap.size) (B := w.heap.size) hb4 (unhide hk3))
          have hz4 := hide (Z4.call hb4 (unhide hz3))
          clear hb4 hz3
          refine hK.out _ _ (unhide hk4) (fun hHeld => ?_)
          clear hK K
          try simp only [Act.put, List.setIfInBounds_toArray, List.set_cons_zero, List.set_cons_succ]
          refine wpAnyH_ready (rs := [6]) (by kernel_rfl) (by simp) ?_
          refine AllReadyH.cons (i := 6) (o := { dst := none, op := Op.store 50 (Operand.tmp 5) (Operand.tmp 11), type := 0, pos := "exact.go:1995", after := #[{ on := 5, ground := Ground.data }, { on := 4, ground := Ground.data }, { on := 4, ground := Ground.chain }, { on := 0, ground := Ground.phase }, { on := 1, ground := Ground.phase }, { on := 2, ground := Ground.phase }, { on := 3, ground := Ground.phase }, { on := 4, ground := Ground.phase }, { on := 5, ground := Ground.phase }], guard := none }) rfl (fun K hK => ?_) AllReadyH.nil
          have hz := unhide hz4
          obtain ⟨⟨c0, c1, c2, c3⟩, z1, z2, z3, z4⟩ := hz
          go_simp
          refine hK.out _ _ ?_ (fun hHeld => ?_)
          · exact S2.set (S2.set (S2.set (S2.set (unhide hk4) z1 z2 _) z1 z2 _) z1 z2 _) z1 z2 _
          clear hK K c0 c1 c2 c3 z4 hHeld
          try simp only [Act.put, List.setIfInBounds_toArray, List.set_cons_zero, List.set_cons_succ]
          refine wpAnyH_done (by kernel_rfl) ?_ _
          go_wp2_with fail
          go_meet
          exact Res4.ofZ (unhide hk4) (unhide hz4) _ _ _ _
      · have hz2 := hide (Z4.new (unhide hk1) 50)
        have hk2 := hide (S2.alloc (unhide hk1) (Obj.cells #[.int .i64 0, .int .i64 0, .bool false, .int .i64 0] 50))
        go_simp
        refine hK.out _ _ (unhide hk2) (fun hHeld => ?_)
        clear hK K
        try simp only [Act.put, List.setIfInBounds_toArray, List.set_cons_zero, List.set_cons_succ]
        clear hHeld
        generalize hg : wz1.alloc (Obj.cells #[.int .i64 0, .int .i64 0, .bool false, .int .i64 0] 50) = wz2 at hz2 hk2 ⊢
        clear hg hk1
        have hHeld := unhide hk2
        generalize wz1.heap.size = bz at hz2 ⊢
        refine wpAnyH_ready (rs := [3]) (by kernel_rfl) (by simp) ?_
        refine AllReadyH.cons (i := 3) (o := { dst := some 10, op := Op.call { callee := Callee.value (Operand.func 31), args := #[Operand.tmp 9], argTypes := #[41] }, type := 25, pos := "exact.go:1995", after := #[{ on := 2, ground := Ground.data }, { on := 1, ground := Ground.chain }], guard := none }) rfl (fun K hK => ?_) AllReadyH.nil
        go_simp
        refine (toIntervalB_c _ _ _).mono ?_
        rintro e wz3 ⟨rfl, hb3⟩
        have hk3 := hide (S2.call (x0 := l0) (y0 := g0) (x1 := l1) (y1 := g1) (w0 := w) (M := w.heap.size) (B := w.heap.size) hb3 (unhide hk2))
        have hz3 := hide (Z4.call hb3 (unhide hz2))
        clear hb3 hz2
        refine hK.out _ _ (unhide hk3) (fun hHeld => ?_)
        clear hK K
        try simp only [Act.put, List.setIfInBounds_toArray, List.set_cons_zero, List.set_cons_succ]
        refine wpAnyH_ready (rs := [4]) (by kernel_rfl) (by simp) ?_
        refine AllReadyH.cons (i := 4) (o := { dst := some 11, op := Op.call { callee := Callee.value (Operand.func 35), args := #[Operand.tmp 8, Operand.tmp 10], argTypes := #[25, 25] }, type := 50, pos := "exact.go:1995", after := #[{ on := 1, ground := Ground.data }, { on := 3, ground := Ground.data }, { on := 3, ground := Ground.chain }], guard := none }) rfl (fun K hK => ?_) AllReadyH.nil
        go_simp
        refine (sIvRem_c _ _ _ _ (unhide HI).1 (unhide HI).2.1 (unhide HI).2.2.1 (unhide HI).2.2.2 _).mono ?_
        rintro e wz4 ⟨rfl, hb4⟩
        rw [← unhide HV]
        have hk4 := hide (S2.call (x0 := l0) (y0 := g0) (x1 := l1) (y1 := g1) (w0 := w) (M := w.heap.size) (B := w.heap.size) hb4 (unhide hk3))
        have hz4 := hide (Z4.call hb4 (unhide hz3))
        clear hb4 hz3
        refine hK.out _ _ (unhide hk4) (fun hHeld => ?_)
        clear hK K
        try simp only [Act.put, List.setIfInBounds_toArray, List.set_cons_zero, List.set_cons_succ]
        refine wpAnyH_ready (rs := [6]) (by kernel_rfl) (by simp) ?_
        refine AllReadyH.cons (i := 6) (o := { dst := none, op := Op.store 50 (Operand.tmp 5) (Operand.tmp 11), type := 0, pos := "exact.go:1995", after := #[{ on := 5, ground := Ground.data }, { on := 4, ground := Ground.data }, { on := 4, ground := Ground.chain }, { on := 0, ground := Ground.phase }, { on := 1, ground := Ground.phase }, { on := 2, ground := Ground.phase }, { on := 3, ground := Ground.phase }, { on := 4, ground := Ground.phase }, { on := 5, ground := Ground.phase }], guard := none }) rfl (fun K hK => ?_) AllReadyH.nil
        have hz := unhide hz4
        obtain ⟨⟨c0, c1, c2, c3⟩, z1, z2, z3, z4⟩ := hz
        go_simp
        refine hK.out _ _ ?_ (fun hHeld => ?_)
        · exact S2.set (S2.set (S2.set (S2.set (unhide hk4) z1 z2 _) z1 z2 _) z1 z2 _) z1 z2 _
        clear hK K c0 c1 c2 c3 z4 hHeld
        try simp only [Act.put, List.setIfInBounds_toArray, List.set_cons_zero, List.set_cons_succ]
        refine wpAnyH_done (by kernel_rfl) ?_ _
        go_wp2_with fail
        go_meet
        exact Res4.ofZ (unhide hk4) (unhide hz4) _ _ _ _
    · have hz1 := hide (Z4.new (unhide hk0) 50)
      have hk1 := hide (S2.alloc (unhide hk0) (Obj.cells #[.int .i64 0, .int .i64 0, .bool false, .int .i64 0] 50))
      go_simp
      refine hK.out _ _ (unhide hk1) (fun hHeld => ?_)
      clear hK K
      try simp only [Act.put, List.setIfInBounds_toArray, List.set_cons_zero, List.set_cons_succ]
      clear hHeld
      generalize hg : wz0.alloc (Obj.cells #[.int .i64 0, .int .i64 0, .bool false, .int .i64 0] 50) = wz1 at hz1 hk1 ⊢
      clear hg hk0
      have hHeld := unhide hk1
      generalize wz0.heap.size = bz at hz1 ⊢
      refine wpAnyH_ready (rs := [1]) (by kernel_rfl) (by simp) ?_
      refine AllReadyH.cons (i := 1) (o := { dst := some 8, op := Op.call { callee := Callee.value (Operand.func 31), args := #[Operand.tmp 7], argTypes := #[41] }, type := 25, pos := "exact.go:1995", after := #[{ on := 0, ground := Ground.data }], guard := none }) rfl (fun K hK => ?_) AllReadyH.nil
      go_simp
      refine (toIntervalB_c _ _ _).mono ?_
      rintro e wz2 ⟨rfl, hb2⟩
      have hk2 := hide (S2.call (x0 := l0) (y0 := g0) (x1 := l1) (y1 := g1) (w0 := w) (M := w.heap.size) (B := w.heap.size) hb2 (unhide hk1))
      have hz2 := hide (Z4.call hb2 (unhide hz1))
      clear hb2 hz1
      refine hK.out _ _ (unhide hk2) (fun hHeld => ?_)
      clear hK K
      try simp only [Act.put, List.setIfInBounds_toArray, List.set_cons_zero, List.set_cons_succ]
      refine wpAnyH_ready (rs := [3]) (by kernel_rfl) (by simp) ?_
      refine AllReadyH.cons (i := 3) (o := { dst := some 10, op := Op.call { callee := Callee.value (Operand.func 31), args := #[Operand.tmp 9], argTypes := #[41] }, type := 25, pos := "exact.go:1995", after := #[{ on := 2, ground := Ground.data }, { on := 1, ground := Ground.chain }], guard := none }) rfl (fun K hK => ?_) AllReadyH.nil
      go_simp
      refine (toIntervalB_c _ _ _).mono ?_
      rintro e wz3 ⟨rfl, hb3⟩
      have hk3 := hide (S2.call (x0 := l0) (y0 := g0) (x1 := l1) (y1 := g1) (w0 := w) (M := w.heap.size) (B := w.heap.size) hb3 (unhide hk2))
      have hz3 := hide (Z4.call hb3 (unhide hz2))
      clear hb3 hz2
      refine hK.out _ _ (unhide hk3) (fun hHeld => ?_)
      clear hK K
      try simp only [Act.put, List.setIfInBounds_toArray, List.set_cons_zero, List.set_cons_succ]
      refine wpAnyH_ready (rs := [4]) (by kernel_rfl) (by simp) ?_
      refine AllReadyH.cons (i := 4) (o := { dst := some 11, op := Op.call { callee := Callee.value (Operand.func 35), args := #[Operand.tmp 8, Operand.tmp 10], argTypes := #[25, 25] }, type := 50, pos := "exact.go:1995", after := #[{ on := 1, ground := Ground.data }, { on := 3, ground := Ground.data }, { on := 3, ground := Ground.chain }], guard := none }) rfl (fun K hK => ?_) AllReadyH.nil
      go_simp
      refine (sIvRem_c _ _ _ _ (unhide HI).1 (unhide HI).2.1 (unhide HI).2.2.1 (unhide HI).2.2.2 _).mono ?_
      rintro e wz4 ⟨rfl, hb4⟩
      rw [← unhide HV]
      have hk4 := hide (S2.call (x0 := l0) (y0 := g0) (x1 := l1) (y1 := g1) (w0 := w) (M := w.heap.size) (B := w.heap.size) hb4 (unhide hk3))
      have hz4 := hide (Z4.call hb4 (unhide hz3))
      clear hb4 hz3
      refine hK.out _ _ (unhide hk4) (fun hHeld => ?_)
      clear hK K
      try simp only [Act.put, List.setIfInBounds_toArray, List.set_cons_zero, List.set_cons_succ]
      refine wpAnyH_ready (rs := [6]) (by kernel_rfl) (by simp) ?_
      refine AllReadyH.cons (i := 6) (o := { dst := none, op := Op.store 50 (Operand.tmp 5) (Operand.tmp 11), type := 0, pos := "exact.go:1995", after := #[{ on := 5, ground := Ground.data }, { on := 4, ground := Ground.data }, { on := 4, ground := Ground.chain }, { on := 0, ground := Ground.phase }, { on := 1, ground := Ground.phase }, { on := 2, ground := Ground.phase }, { on := 3, ground := Ground.phase }, { on := 4, ground := Ground.phase }, { on := 5, ground := Ground.phase }], guard := none }) rfl (fun K hK => ?_) AllReadyH.nil
      have hz := unhide hz4
      obtain ⟨⟨c0, c1, c2, c3⟩, z1, z2, z3, z4⟩ := hz
      go_simp
      refine hK.out _ _ ?_ (fun hHeld => ?_)
      · exact S2.set (S2.set (S2.set (S2.set (unhide hk4) z1 z2 _) z1 z2 _) z1 z2 _) z1 z2 _
      clear hK K c0 c1 c2 c3 z4 hHeld
      try simp only [Act.put, List.setIfInBounds_toArray, List.set_cons_zero, List.set_cons_succ]
      refine wpAnyH_done (by kernel_rfl) ?_ _
      go_wp2_with fail
      go_meet
      exact Res4.ofZ (unhide hk4) (unhide hz4) _ _ _ _
  case rest =>
  clear hs0
  obtain ⟨b, rfl, cb, hb2, hbs, hs1⟩ := hcut
  have K1 : Hid (Below w.heap.size w wc) := hs1.2.2.2.2.1
  have hz1 := hs1.2.2.2.2.2.2
  have hs2 : S2 wc wc.heap.size w.heap.size l0 g0 l1 g1 wc := ⟨hs1.1, hs1.2.1, hs1.2.2.1, hs1.2.2.2.1, Below.refl _ _, Nat.le_refl _, hz1⟩
  clear hs1
  have CB := hide cb
  clear cb
  obtain ⟨wd, rfl⟩ : ∃ wd : World, wd = wc := ⟨_, rfl⟩
  go_wp2_with fail
  go_cut [6] (fun p wc => Res4 wd wd.heap.size w.heap.size l0 g0 l1 g1 p V.lo V.hi V.live V.al wc)
  case first =>
    have hk0 := hide (S2.drew hs2)
    clear hs2
    obtain ⟨wz0, hw0⟩ : ∃ x, x = wd.drew := ⟨_, rfl⟩
    rw [← hw0] at hk0
    refine wp_region_held_drew (S := S2 wd wd.heap.size w.heap.size l0 g0 l1 g1) (by kernel_rfl) (by rw [← hw0]; exact unhide hk0) (fun hHeld => ?_)
    rw [← hw0] at hHeld ⊢
    clear hw0
    refine wpAnyH_take (i := 0) (oi := { dst := some 12, op := Op.load 41 (Operand.tmp 2), type := 41, pos := "exact.go:1996", after := #[], guard := none }) (v := ?_) rfl (by kernel_rfl) (by kernel_rfl) (by kernel_rfl) (fun _ _ _ h => h) (Or.inl ⟨by rfl, ?_⟩) (by assumption) ?_
    rotate_left
    · (intro w hSw; (try dsimp only at hSw); go_simp; try with_reducible rfl)
    try simp only [Act.put, List.setIfInBounds_toArray, List.set_cons_zero, List.set_cons_succ]
    refine wpAnyH_take (i := 2) (oi := { dst := some 14, op := Op.load 41 (Operand.tmp 3), type := 41, pos := "exact.go:1996", after := #[], guard := none }) (v := ?_) rfl (by kernel_rfl) (by kernel_rfl) (by kernel_rfl) (fun _ _ _ h => h) (Or.inl ⟨by rfl, ?_⟩) (by assumption) ?_
    rotate_left
    · (intro w hSw; (try dsimp only at hSw); go_simp; try with_reducible rfl)
    try simp only [Act.put, List.setIfInBounds_toArray, List.set_cons_zero, List.set_cons_succ]
    refine wpAnyH_ready (rs := [1, 5]) (by kernel_rfl) (by simp) ?_
    refine AllReadyH.cons (i := 1) (o := { dst := some 13, op := Op.call { callee := Callee.value (Operand.func 31), args := #[Operand.tmp 12], argTypes := #[41] }, type := 25, pos := "exact.go:1996", after := #[{ on := 0, ground := Ground.data }], guard := none }) rfl (fun K hK => ?_) (AllReadyH.cons (i := 5) (o := { dst := some 6, op := Op.alloc 50, type := 0, pos := "exact.go:1996", after := #[], guard := none }) rfl (fun K hK => ?_) AllReadyH.nil)
    · go_simp
      refine (toIntervalB_c _ _ _).mono ?_
      rintro e wz1 ⟨rfl, hb1⟩
      have hk1 := hide (S2.call (x0 := l0) (y0 := g0) (x1 := l1) (y1 := g1) (w0 := wd) (M := wd.heap.size) (B := w.heap.size) hb1 (unhide hk0))
      clear hb1
      refine hK.out _ _ (unhide hk1) (fun hHeld => ?_)
      clear hK K
      try simp only [Act.put, List.setIfInBounds_toArray, List.set_cons_zero, List.set_cons_succ]
      refine wpAnyH_ready (rs := [3, 5]) (by kernel_rfl) (by simp) ?_
      refine AllReadyH.cons (i := 3) (o := { dst := some 15, op := Op.call { callee := Callee.value (Operand.func 31), args := #[Operand.tmp 14], argTypes := #[41] }, type := 25, pos := "exact.go:1996", after := #[{ on := 2, ground := Ground.data }, { on := 1, ground := Ground.chain }], guard := none }) rfl (fun K hK => ?_) (AllReadyH.cons (i := 5) (o := { dst := some 6, op := Op.alloc 50, type := 0, pos := "exact.go:1996", after := #[], guard := none }) rfl (fun K hK => ?_) AllReadyH.nil)
      · go_simp
        refine (toIntervalB_c _ _ _).mono ?_
        rintro e wz2 ⟨rfl, hb2⟩
        have hk2 := hide (S2.call (x0 := l0) (y0 := g0) (x1 := l1) (y1 := g1) (w0 := wd) (M := wd.heap.size) (B := w.heap.size) hb2 (unhide hk1))
        clear hb2
        refine hK.out _ _ (unhide hk2) (fun hHeld => ?_)
        clear hK K
        try simp only [Act.put, List.setIfInBounds_toArray, List.set_cons_zero, List.set_cons_succ]
        refine wpAnyH_ready (rs := [4, 5]) (by kernel_rfl) (by simp) ?_
        refine AllReadyH.cons (i := 4) (o := { dst := some 16, op := Op.call { callee := Callee.value (Operand.func 36), args := #[Operand.tmp 13, Operand.tmp 15], argTypes := #[25, 25] }, type := 50, pos := "exact.go:1996", after := #[{ on := 1, ground := Ground.data }, { on := 3, ground := Ground.data }, { on := 3, ground := Ground.chain }], guard := none }) rfl (fun K hK => ?_) (AllReadyH.cons (i := 5) (o := { dst := some 6, op := Op.alloc 50, type := 0, pos := "exact.go:1996", after := #[], guard := none }) rfl (fun K hK => ?_) AllReadyH.nil)
        · go_simp
          refine (IvRem_c _ _ _ _ (unhide HI).1 (unhide HI).2.1 (unhide HI).2.2.1 (unhide HI).2.2.2 _).mono ?_
          rintro e wz3 ⟨rfl, hb3⟩
          rw [← unhide HV]
          have hk3 := hide (S2.call (x0 := l0) (y0 := g0) (x1 := l1) (y1 := g1) (w0 := wd) (M := wd.heap.size) (B := w.heap.size) hb3 (unhide hk2))
          clear hb3
          refine hK.out _ _ (unhide hk3) (fun hHeld => ?_)
          clear hK K
          try simp only [Act.put, List.setIfInBounds_toArray, List.set_cons_zero, List.set_cons_succ]
          refine wpAnyH_ready (rs := [5]) (by kernel_rfl) (by simp) ?_
          refine AllReadyH.cons (i := 5) (o := { dst := some 6, op := Op.alloc 50, type := 0, pos := "exact.go:1996", after := #[], guard := none }) rfl (fun K hK => ?_) AllReadyH.nil
          have hz4 := hide (Z4.new (unhide hk3) 50)
          have hk4 := hide (S2.alloc (unhide hk3) (Obj.cells #[.int .i64 0, .int .i64 0, .bool false, .int .i64 0] 50))
          go_simp
          refine hK.out _ _ (unhide hk4) (fun hHeld => ?_)
          clear hK K
          try simp only [Act.put, List.setIfInBounds_toArray, List.set_cons_zero, List.set_cons_succ]
          clear hHeld
          generalize hg : wz3.alloc (Obj.cells #[.int .i64 0, .int .i64 0, .bool false, .int .i64 0] 50) = wz4 at hz4 hk4 ⊢
          clear hg hk3
          have hHeld := unhide hk4
          generalize wz3.heap.size = bz at hz4 ⊢
          refine wpAnyH_ready (rs := [6]) (by kernel_rfl) (by simp) ?_
          refine AllReadyH.cons (i := 6) (o := { dst := none, op := Op.store 50 (Operand.tmp 6) (Operand.tmp 16), type := 0, pos := "exact.go:1996", after := #[{ on := 5, ground := Ground.data }, { on := 4, ground := Ground.data }, { on := 4, ground := Ground.chain }, { on := 0, ground := Ground.phase }, { on := 1, ground := Ground.phase }, { on := 2, ground := Ground.phase }, { on := 3, ground := Ground.phase }, { on := 4, ground := Ground.phase }, { on := 5, ground := Ground.phase }], guard := none }) rfl (fun K hK => ?_) AllReadyH.nil
          have hz := unhide hz4
          obtain ⟨⟨c0, c1, c2, c3⟩, z1, z2, z3, z4⟩ := hz
          go_simp
          refine hK.out _ _ ?_ (fun hHeld => ?_)
          · exact S2.set (S2.set (S2.set (S2.set (unhide hk4) z1 z2 _) z1 z2 _) z1 z2 _) z1 z2 _
          clear hK K c0 c1 c2 c3 z4 hHeld
          try simp only [Act.put, List.setIfInBounds_toArray, List.set_cons_zero, List.set_cons_succ]
          refine wpAnyH_done (by kernel_rfl) ?_ _
          go_wp2_with fail
          go_meet
          exact Res4.ofZ (unhide hk4) (unhide hz4) _ _ _ _
        · have hz3 := hide (Z4.new (unhide hk2) 50)
          have hk3 := hide (S2.alloc (unhide hk2) (Obj.cells #[.int .i64 0, .int .i64 0, .bool false, .int .i64 0] 50))
          go_simp
          refine hK.out _ _ (unhide hk3) (fun hHeld => ?_)
          clear hK K
          try simp only [Act.put, List.setIfInBounds_toArray, List.set_cons_zero, List.set_cons_succ]
          clear hHeld
          generalize hg : wz2.alloc (Obj.cells #[.int .i64 0, .int .i64 0, .bool false, .int .i64 0] 50) = wz3 at hz3 hk3 ⊢
          clear hg hk2
          have hHeld := unhide hk3
          generalize wz2.heap.size = bz at hz3 ⊢
          refine wpAnyH_ready (rs := [4]) (by kernel_rfl) (by simp) ?_
          refine AllReadyH.cons (i := 4) (o := { dst := some 16, op := Op.call { callee := Callee.value (Operand.func 36), args := #[Operand.tmp 13, Operand.tmp 15], argTypes := #[25, 25] }, type := 50, pos := "exact.go:1996", after := #[{ on := 1, ground := Ground.data }, { on := 3, ground := Ground.data }, { on := 3, ground := Ground.chain }], guard := none }) rfl (fun K hK => ?_) AllReadyH.nil
          go_simp
          refine (IvRem_c _ _ _ _ (unhide HI).1 (unhide HI).2.1 (unhide HI).2.2.1 (unhide HI).2.2.2 _).mono ?_
          rintro e wz4 ⟨rfl, hb4⟩
          rw [← unhide HV]
          have hk4 := hide (S2.call (x0 := l0) (y0 := g0) (x1 := l1) (y1 := g1) (w0 := wd) (M := wd.heap.size) (B := w.heap.size) hb4 (unhide hk3))
          have hz4 := hide (Z4.call hb4 (unhide hz3))
          clear hb4 hz3
          refine hK.out _ _ (unhide hk4) (fun hHeld => ?_)
          clear hK K
          try simp only [Act.put, List.setIfInBounds_toArray, List.set_cons_zero, List.set_cons_succ]
          refine wpAnyH_ready (rs := [6]) (by kernel_rfl) (by simp) ?_
          refine AllReadyH.cons (i := 6) (o := { dst := none, op := Op.store 50 (Operand.tmp 6) (Operand.tmp 16), type := 0, pos := "exact.go:1996", after := #[{ on := 5, ground := Ground.data }, { on := 4, ground := Ground.data }, { on := 4, ground := Ground.chain }, { on := 0, ground := Ground.phase }, { on := 1, ground := Ground.phase }, { on := 2, ground := Ground.phase }, { on := 3, ground := Ground.phase }, { on := 4, ground := Ground.phase }, { on := 5, ground := Ground.phase }], guard := none }) rfl (fun K hK => ?_) AllReadyH.nil
          have hz := unhide hz4
          obtain ⟨⟨c0, c1, c2, c3⟩, z1, z2, z3, z4⟩ := hz
          go_simp
          refine hK.out _ _ ?_ (fun hHeld => ?_)
          · exact S2.set (S2.set (S2.set (S2.set (unhide hk4) z1 z2 _) z1 z2 _) z1 z2 _) z1 z2 _
          clear hK K c0 c1 c2 c3 z4 hHeld
          try simp only [Act.put, List.setIfInBounds_toArray, List.set_cons_zero, List.set_cons_succ]
          refine wpAnyH_done (by kernel_rfl) ?_ _
          go_wp2_with fail
          go_meet
          exact Res4.ofZ (unhide hk4) (unhide hz4) _ _ _ _
      · have hz2 := hide (Z4.new (unhide hk1) 50)
        have hk2 := hide (S2.alloc (unhide hk1) (Obj.cells #[.int .i64 0, .int .i64 0, .bool false, .int .i64 0] 50))
        go_simp
        refine hK.out _ _ (unhide hk2) (fun hHeld => ?_)
        clear hK K
        try simp only [Act.put, List.setIfInBounds_toArray, List.set_cons_zero, List.set_cons_succ]
        clear hHeld
        generalize hg : wz1.alloc (Obj.cells #[.int .i64 0, .int .i64 0, .bool false, .int .i64 0] 50) = wz2 at hz2 hk2 ⊢
        clear hg hk1
        have hHeld := unhide hk2
        generalize wz1.heap.size = bz at hz2 ⊢
        refine wpAnyH_ready (rs := [3]) (by kernel_rfl) (by simp) ?_
        refine AllReadyH.cons (i := 3) (o := { dst := some 15, op := Op.call { callee := Callee.value (Operand.func 31), args := #[Operand.tmp 14], argTypes := #[41] }, type := 25, pos := "exact.go:1996", after := #[{ on := 2, ground := Ground.data }, { on := 1, ground := Ground.chain }], guard := none }) rfl (fun K hK => ?_) AllReadyH.nil
        go_simp
        refine (toIntervalB_c _ _ _).mono ?_
        rintro e wz3 ⟨rfl, hb3⟩
        have hk3 := hide (S2.call (x0 := l0) (y0 := g0) (x1 := l1) (y1 := g1) (w0 := wd) (M := wd.heap.size) (B := w.heap.size) hb3 (unhide hk2))
        have hz3 := hide (Z4.call hb3 (unhide hz2))
        clear hb3 hz2
        refine hK.out _ _ (unhide hk3) (fun hHeld => ?_)
        clear hK K
        try simp only [Act.put, List.setIfInBounds_toArray, List.set_cons_zero, List.set_cons_succ]
        refine wpAnyH_ready (rs := [4]) (by kernel_rfl) (by simp) ?_
        refine AllReadyH.cons (i := 4) (o := { dst := some 16, op := Op.call { callee := Callee.value (Operand.func 36), args := #[Operand.tmp 13, Operand.tmp 15], argTypes := #[25, 25] }, type := 50, pos := "exact.go:1996", after := #[{ on := 1, ground := Ground.data }, { on := 3, ground := Ground.data }, { on := 3, ground := Ground.chain }], guard := none }) rfl (fun K hK => ?_) AllReadyH.nil
        go_simp
        refine (IvRem_c _ _ _ _ (unhide HI).1 (unhide HI).2.1 (unhide HI).2.2.1 (unhide HI).2.2.2 _).mono ?_
        rintro e wz4 ⟨rfl, hb4⟩
        rw [← unhide HV]
        have hk4 := hide (S2.call (x0 := l0) (y0 := g0) (x1 := l1) (y1 := g1) (w0 := wd) (M := wd.heap.size) (B := w.heap.size) hb4 (unhide hk3))
        have hz4 := hide (Z4.call hb4 (unhide hz3))
        clear hb4 hz3
        refine hK.out _ _ (unhide hk4) (fun hHeld => ?_)
        clear hK K
        try simp only [Act.put, List.setIfInBounds_toArray, List.set_cons_zero, List.set_cons_succ]
        refine wpAnyH_ready (rs := [6]) (by kernel_rfl) (by simp) ?_
        refine AllReadyH.cons (i := 6) (o := { dst := none, op := Op.store 50 (Operand.tmp 6) (Operand.tmp 16), type := 0, pos := "exact.go:1996", after := #[{ on := 5, ground := Ground.data }, { on := 4, ground := Ground.data }, { on := 4, ground := Ground.chain }, { on := 0, ground := Ground.phase }, { on := 1, ground := Ground.phase }, { on := 2, ground := Ground.phase }, { on := 3, ground := Ground.phase }, { on := 4, ground := Ground.phase }, { on := 5, ground := Ground.phase }], guard := none }) rfl (fun K hK => ?_) AllReadyH.nil
        have hz := unhide hz4
        obtain ⟨⟨c0, c1, c2, c3⟩, z1, z2, z3, z4⟩ := hz
        go_simp
        refine hK.out _ _ ?_ (fun hHeld => ?_)
        · exact S2.set (S2.set (S2.set (S2.set (unhide hk4) z1 z2 _) z1 z2 _) z1 z2 _) z1 z2 _
        clear hK K c0 c1 c2 c3 z4 hHeld
        try simp only [Act.put, List.setIfInBounds_toArray, List.set_cons_zero, List.set_cons_succ]
        refine wpAnyH_done (by kernel_rfl) ?_ _
        go_wp2_with fail
        go_meet
        exact Res4.ofZ (unhide hk4) (unhide hz4) _ _ _ _
    · have hz1 := hide (Z4.new (unhide hk0) 50)
      have hk1 := hide (S2.alloc (unhide hk0) (Obj.cells #[.int .i64 0, .int .i64 0, .bool false, .int .i64 0] 50))
      go_simp
      refine hK.out _ _ (unhide hk1) (fun hHeld => ?_)
      clear hK K
      try simp only [Act.put, List.setIfInBounds_toArray, List.set_cons_zero, List.set_cons_succ]
      clear hHeld
      generalize hg : wz0.alloc (Obj.cells #[.int .i64 0, .int .i64 0, .bool false, .int .i64 0] 50) = wz1 at hz1 hk1 ⊢
      clear hg hk0
      have hHeld := unhide hk1
      generalize wz0.heap.size = bz at hz1 ⊢
      refine wpAnyH_ready (rs := [1]) (by kernel_rfl) (by simp) ?_
      refine AllReadyH.cons (i := 1) (o := { dst := some 13, op := Op.call { callee := Callee.value (Operand.func 31), args := #[Operand.tmp 12], argTypes := #[41] }, type := 25, pos := "exact.go:1996", after := #[{ on := 0, ground := Ground.data }], guard := none }) rfl (fun K hK => ?_) AllReadyH.nil
      go_simp
      refine (toIntervalB_c _ _ _).mono ?_
      rintro e wz2 ⟨rfl, hb2⟩
      have hk2 := hide (S2.call (x0 := l0) (y0 := g0) (x1 := l1) (y1 := g1) (w0 := wd) (M := wd.heap.size) (B := w.heap.size) hb2 (unhide hk1))
      have hz2 := hide (Z4.call hb2 (unhide hz1))
      clear hb2 hz1
      refine hK.out _ _ (unhide hk2) (fun hHeld => ?_)
      clear hK K
      try simp only [Act.put, List.setIfInBounds_toArray, List.set_cons_zero, List.set_cons_succ]
      refine wpAnyH_ready (rs := [3]) (by kernel_rfl) (by simp) ?_
      refine AllReadyH.cons (i := 3) (o := { dst := some 15, op := Op.call { callee := Callee.value (Operand.func 31), args := #[Operand.tmp 14], argTypes := #[41] }, type := 25, pos := "exact.go:1996", after := #[{ on := 2, ground := Ground.data }, { on := 1, ground := Ground.chain }], guard := none }) rfl (fun K hK => ?_) AllReadyH.nil
      go_simp
      refine (toIntervalB_c _ _ _).mono ?_
      rintro e wz3 ⟨rfl, hb3⟩
      have hk3 := hide (S2.call (x0 := l0) (y0 := g0) (x1 := l1) (y1 := g1) (w0 := wd) (M := wd.heap.size) (B := w.heap.size) hb3 (unhide hk2))
      have hz3 := hide (Z4.call hb3 (unhide hz2))
      clear hb3 hz2
      refine hK.out _ _ (unhide hk3) (fun hHeld => ?_)
      clear hK K
      try simp only [Act.put, List.setIfInBounds_toArray, List.set_cons_zero, List.set_cons_succ]
      refine wpAnyH_ready (rs := [4]) (by kernel_rfl) (by simp) ?_
      refine AllReadyH.cons (i := 4) (o := { dst := some 16, op := Op.call { callee := Callee.value (Operand.func 36), args := #[Operand.tmp 13, Operand.tmp 15], argTypes := #[25, 25] }, type := 50, pos := "exact.go:1996", after := #[{ on := 1, ground := Ground.data }, { on := 3, ground := Ground.data }, { on := 3, ground := Ground.chain }], guard := none }) rfl (fun K hK => ?_) AllReadyH.nil
      go_simp
      refine (IvRem_c _ _ _ _ (unhide HI).1 (unhide HI).2.1 (unhide HI).2.2.1 (unhide HI).2.2.2 _).mono ?_
      rintro e wz4 ⟨rfl, hb4⟩
      rw [← unhide HV]
      have hk4 := hide (S2.call (x0 := l0) (y0 := g0) (x1 := l1) (y1 := g1) (w0 := wd) (M := wd.heap.size) (B := w.heap.size) hb4 (unhide hk3))
      have hz4 := hide (Z4.call hb4 (unhide hz3))
      clear hb4 hz3
      refine hK.out _ _ (unhide hk4) (fun hHeld => ?_)
      clear hK K
      try simp only [Act.put, List.setIfInBounds_toArray, List.set_cons_zero, List.set_cons_succ]
      refine wpAnyH_ready (rs := [6]) (by kernel_rfl) (by simp) ?_
      refine AllReadyH.cons (i := 6) (o := { dst := none, op := Op.store 50 (Operand.tmp 6) (Operand.tmp 16), type := 0, pos := "exact.go:1996", after := #[{ on := 5, ground := Ground.data }, { on := 4, ground := Ground.data }, { on := 4, ground := Ground.chain }, { on := 0, ground := Ground.phase }, { on := 1, ground := Ground.phase }, { on := 2, ground := Ground.phase }, { on := 3, ground := Ground.phase }, { on := 4, ground := Ground.phase }, { on := 5, ground := Ground.phase }], guard := none }) rfl (fun K hK => ?_) AllReadyH.nil
      have hz := unhide hz4
      obtain ⟨⟨c0, c1, c2, c3⟩, z1, z2, z3, z4⟩ := hz
      go_simp
      refine hK.out _ _ ?_ (fun hHeld => ?_)
      · exact S2.set (S2.set (S2.set (S2.set (unhide hk4) z1 z2 _) z1 z2 _) z1 z2 _) z1 z2 _
      clear hK K c0 c1 c2 c3 z4 hHeld
      try simp only [Act.put, List.setIfInBounds_toArray, List.set_cons_zero, List.set_cons_succ]
      refine wpAnyH_done (by kernel_rfl) ?_ _
      go_wp2_with fail
      go_meet
      exact Res4.ofZ (unhide hk4) (unhide hz4) _ _ _ _
  case rest =>
  obtain ⟨b2, rfl, cd, _, _, hs3⟩ := hcut
  have kb := hs3.2.2.2.2.1
  obtain ⟨d0, d1, d2, d3⟩ := cd
  have e0 : wc.cell? ⟨b, 0, none⟩ = some (.int .i64 V.lo) := (kb.cell (by exact hbs)).trans (unhide CB).1
  have e1 : wc.cell? ⟨b, 1, none⟩ = some (.int .i64 V.hi) := (kb.cell (by exact hbs)).trans (unhide CB).2.1
  have e2 : wc.cell? ⟨b, 2, none⟩ = some (.bool V.live) := (kb.cell (by exact hbs)).trans (unhide CB).2.2.1
  have e3 : wc.cell? ⟨b, 3, none⟩ = some (.int .i64 V.al) := (kb.cell (by exact hbs)).trans (unhide CB).2.2.2
  have K2 : Hid (Below w.heap.size w wc) := K1.out.trans (kb.mono K1.out.size)
  clear kb hs3 CB hs2
  go_wp2_with fail
  refine (eqVal_c _ _ _ _ _).mono ?_
  rintro e w4 ⟨rfl, hb4⟩
  have K4 : Hid (Below w.heap.size w w4) := K2.out.trans (hb4.mono K2.out.size)
  clear hb4
  go_wp2
  go_ret
  exact ⟨rfl, K4.out⟩

/-! The row's step. -/
set_option maxRecDepth 100000 in
theorem lifted (os : Os) (started : os.Started) (H : Type) (enc : TypeId × Value → H) :
    ReturnsInHanded {} Try.checked os 12 .any (Rows.fnExactIvRemSpec.pre6 enc Try.prog Try.f12 Rows.fnExactIvRemRow.domain false) (Rows.fnExactIvRemSpec.post enc Try.prog Try.f12 false true false false) := by
  refine returnsInHanded_of_change (C := Try.checked) own started (by kernel_rfl) Try.func12
    (ChangeSpec.witness6 (enc := enc) (C := Try.checked) false ⟨#[], #[.agg #[.int .i64 0, .int .i64 0], .agg #[.int .i64 0, .int .i64 0]], []⟩ 8 (by kernel_rfl) (by kernel_rfl) (by kernel_rfl) (by kernel_rfl)) ?_
  intro W base args ds gs before hval0 hW hcnd _
  have hval : ∀ (j : Nat) t v, Try.f12.params[j]? = some t → args[j]? = some v → Value.okWide Try.prog W .any base t v := hval0
  have hW' := hW
  obtain ⟨p, q, hA0, hV, rfl, hfz, hnd⟩ := hW
  have hA : DataW.TrodAll enc Try.prog W 0 (fun _ => true) true Try.f12.params.toList args.toList ds p := hA0
  rw [Try.params12] at hA hval
  obtain ⟨v0, vs0, d0, ds0, p0, q0, hargs, rfl, rfl, h0, r0⟩ := trodAll_cons hA
  obtain ⟨v1, vs1, d1, ds1, p1, q1, rfl, rfl, rfl, h1, r1⟩ := trodAll_cons r0
  obtain ⟨rfl, rfl, rfl⟩ := trodAll_nil r1
  obtain rfl : args = #[v0, v1] := by cases args; simp_all
  obtain ⟨rfl, rfl⟩ := trodVars_none hV
  have k0 := h0
  have lt0 : ∀ x ∈ p0, x.block < W.heap.size := by obtain ⟨m, hm⟩ := k0; exact DataW.trod_lt m _ _ _ hm
  obtain ⟨l0, g0, rfl, i0, j0⟩ : ∃ l g, v0 = .agg #[.int .i64 l, .int .i64 g] ∧ In l ∧ In g := by
    obtain ⟨c0, c1, y0, y1, m, e1, _, _, hy0, hy1⟩ := Joins.open_agg2 Try.underlying41 (by kernel_rfl) (by kernel_rfl) (hval 0 41 v0 rfl rfl) h0
    obtain ⟨a, q0, _, wa⟩ := DataW.trod_int Try.underlying2 hy0
    obtain ⟨b, q1, _, wb⟩ := DataW.trod_int Try.underlying2 hy1
    simp at q0 q1
    subst q0 q1
    exact ⟨a, b, e1, bounds_i64 wa, bounds_i64 wb⟩
  have k1 := h1
  have lt1 : ∀ x ∈ p1, x.block < W.heap.size := by obtain ⟨m, hm⟩ := k1; exact DataW.trod_lt m _ _ _ hm
  obtain ⟨l1, g1, rfl, i1, j1⟩ : ∃ l g, v1 = .agg #[.int .i64 l, .int .i64 g] ∧ In l ∧ In g := by
    obtain ⟨c0, c1, y0, y1, m, e1, _, _, hy0, hy1⟩ := Joins.open_agg2 Try.underlying41 (by kernel_rfl) (by kernel_rfl) (hval 1 41 v1 rfl rfl) h1
    obtain ⟨a, q0, _, wa⟩ := DataW.trod_int Try.underlying2 hy0
    obtain ⟨b, q1, _, wb⟩ := DataW.trod_int Try.underlying2 hy1
    simp at q0 q1
    subst q0 q1
    exact ⟨a, b, e1, bounds_i64 wa, bounds_i64 wb⟩
  clear hA0 hval0
  refine (walk l0 g0 l1 g1 W i0 j0 i1 j1).mono fun e W' ⟨he, bel⟩ => ?_
  subst he
  exact ⟨_, rfl, _, _, _, [], _, [], hW', trodAll_mk1 (shut_bool Try.underlying4 _), (trodAll_cons_mk (Below.trod laidOut (by kernel_rfl) (of_decide_eq_true (by kernel_rfl)) k0 bel lt0) (trodAll_cons_mk (Below.trod laidOut (by kernel_rfl) (of_decide_eq_true (by kernel_rfl)) k1 bel lt1) trodAll_mk0)), rfl, bel.frame _, fun h => by cases h⟩

theorem over : Rows.fnExactIvRemRow.holds Try.pinned (OpenSpec.ofChange Rows.fnExactIvRemSpec) :=
  OpenClaim.holds_of_wide 12 Try.f12 rfl rfl rfl rfl rfl rfl rfl ⟨rfl, rfl, rfl, rfl, rfl⟩ rfl rfl rfl rfl rfl (by kernel_rfl) Try.func12 (by kernel_rfl)
    (of_decide_eq_true (by kernel_rfl)) (by unfold Func.isWrapper; first | (rw [if_pos (by decide +kernel)]; kernel_rfl) | (rw [if_neg (by decide +kernel)]; exact ⟨rfl, rfl⟩))
    (fun os started H enc _ => lifted os started H enc)
end Go.Proofs.Ytojakiiohbmlaaa.fnExactIvRem

namespace Go.Proofs.Ytojakiiohbmlaaa
/-- The given statement. -/
theorem fnExactIvRem_holds : Rows.FnExactIvRemSaid := fnExactIvRem.over
#print axioms fnExactIvRem_holds
end Go.Proofs.Ytojakiiohbmlaaa
