/- Proved here: whatever the arguments, a call of laws.FnExactIvWiden returns true and leaves its arguments as they were. No condition beside the row's own. -/
import Derived.Test.YtojakiiohbmlaaaRows
import Derived.WalkKit
import Derived.ProofKit
import Derived.OpenShut
import Derived.ShutString
import Derived.ChangeOld
import Derived.Below
import Derived.Lib.SmallJoins
import Derived.Test.YtojakiiohbmlaaaReadC
import Derived.Test.YtojakiiohbmlaaaIvC
import Derived.Test.YtojakiiohbmlaaaIvD
import Derived.Test.YtojakiiohbmlaaaWidE
namespace Go.Proofs.Ytojakiiohbmlaaa.fnExactIvWiden
open Go.Iv
open Go.ChangeShapes Go.WideShapes Go.ChangeAt Go.RowKit
open Go.ChangeMaps (open_string shut_string)
set_option linter.unusedVariables false
set_option linter.unusedSimpArgs false

theorem own : ownKnob Try.prog.godebug = none := by kernel_rfl
theorem laidOut : laidOutB Try.prog = true := by kernel_rfl

/-- What the walk is told of a slice of integers that came in. -/
def IsRow (k : IntKind) (w : World) (a : Option Addr) (len cap : Nat) (zs : List Int) : Prop :=
  (a = none ∧ len = 0 ∧ cap = 0 ∧ zs = []) ∨
  ∃ x, a = some x ∧ len ≤ cap ∧ cap ≤ maxLen ∧ zs.length = cap ∧ (∀ i, i < zs.length → w.cell? (x.add i) = some (.int k (zs.getD i 0))) ∧ ∀ n ∈ zs, (Lit.int k n).wf = true

/-! The walk of the law. -/
set_option maxRecDepth 100000 in
set_option maxHeartbeats 2000000 in
theorem walk (l0 g0 : Int) (l1 g1 : Int) (a2 : Option Addr) (len2 cap2 : Nat) (z2 : List Int) (w : World) (i0 : In l0) (j0 : In g0) (i1 : In l1) (j1 : In g1) (w2 : IsRow .i64 w a2 len2 cap2 z2) :
    Calls Try.prog 11 #[.agg #[.int .i64 l0, .int .i64 g0], .agg #[.int .i64 l1, .int .i64 g1], .slice a2 len2 cap2] w fun e w' => e = .returned (.bool true) ∧ Below w.heap.size w w' := by
  --HEAVY
  clear i0 j0 i1 j1
  by_cases hbig : 1048576 < len2
  · have hm : len2 ≤ maxLen := by
      rcases w2 with ⟨_, h0, _⟩ | ⟨_, _, h1, h2, _⟩
      · omega
      · omega
    unfold maxLen at hm
    have hb' : (1048576 : Int) < (len2 : Int) := by omega
    clear w2
    go_enter Try.func11, Try.ntmps11
    go_wp2
    go_ret
    exact ⟨rfl, ((Below.refl _ _).alloc (Nat.le_refl _) _).alloc (by simp) _⟩
  have hsm : len2 ≤ 1048576 := by omega
  obtain ⟨hlen, hin⟩ := ints_of_row w2 hsm
  obtain ⟨zs, hzs⟩ : ∃ zs, zs = z2.take len2 := ⟨_, rfl⟩
  rw [← hzs] at hlen hin
  clear w2 hzs hbig
  subst hlen
  have HZ := hide hin
  clear hin
  have hsm' : (zs.length : Int) ≤ 1048576 := by omega
  have hs0 : S2 w w.heap.size w.heap.size l0 g0 l1 g1 ((w.alloc (Obj.cells #[.int .i64 l0, .int .i64 g0] 41)).alloc (Obj.cells #[.int .i64 l1, .int .i64 g1] 41)) := by
    refine ⟨by simp, by simp, by simp, by simp, ((Below.refl _ _).alloc (Nat.le_refl _) _).alloc (by simp) _, by simp; omega, by simp⟩
  go_enter Try.func11, Try.ntmps11
  go_wp2_with fail
  generalize (w.alloc (Obj.cells #[.int .i64 l0, .int .i64 g0] 41)).alloc (Obj.cells #[.int .i64 l1, .int .i64 g1] 41) = W at hs0 ⊢
  go_cut [7] (fun p wc => Res2 w w.heap.size w.heap.size l0 g0 l1 g1 p (widL l0 g0 l1 g1 zs) (widH l0 g0 l1 g1 zs) wc)
  case first =>
    have hk0 := hide (S2.drew hs0)
    clear hs0
    obtain ⟨wz0, hw0⟩ : ∃ x, x = W.drew := ⟨_, rfl⟩
    rw [← hw0] at hk0
    refine wp_region_held_drew (S := S2 w w.heap.size w.heap.size l0 g0 l1 g1) (by kernel_rfl) (by rw [← hw0]; exact unhide hk0) (fun hHeld => ?_)
    rw [← hw0] at hHeld ⊢
    clear hw0
    refine wpAnyH_take (i := 0) (oi := { dst := some 13, op := Op.load 41 (Operand.tmp 3), type := 41, pos := "exact.go:1941", after := #[], guard := none }) (v := ?_) rfl (by kernel_rfl) (by kernel_rfl) (by kernel_rfl) (fun _ _ _ h => h) (Or.inl ⟨by rfl, ?_⟩) (by assumption) ?_
    rotate_left
    · (intro w hSw; (try dsimp only at hSw); go_simp; try with_reducible rfl)
    try simp only [Act.put, List.setIfInBounds_toArray, List.set_cons_zero, List.set_cons_succ]
    refine wpAnyH_take (i := 2) (oi := { dst := some 15, op := Op.load 41 (Operand.tmp 4), type := 41, pos := "exact.go:1941", after := #[], guard := none }) (v := ?_) rfl (by kernel_rfl) (by kernel_rfl) (by kernel_rfl) (fun _ _ _ h => h) (Or.inl ⟨by rfl, ?_⟩) (by assumption) ?_
    rotate_left
    · (intro w hSw; (try dsimp only at hSw); go_simp; try with_reducible rfl)
    try simp only [Act.put, List.setIfInBounds_toArray, List.set_cons_zero, List.set_cons_succ]
    refine wpAnyH_take (i := 4) (oi := { dst := some 17, op := Op.move (Operand.tmp 2), type := 37, pos := "exact.go:1941", after := #[], guard := none }) (v := ?_) rfl (by kernel_rfl) (by kernel_rfl) (by kernel_rfl) (fun _ _ _ h => h) (Or.inl ⟨by rfl, ?_⟩) (by assumption) ?_
    rotate_left
    · (intro w hSw; (try dsimp only at hSw); go_simp; try with_reducible rfl)
    try simp only [Act.put, List.setIfInBounds_toArray, List.set_cons_zero, List.set_cons_succ]
    refine wpAnyH_ready (rs := [1, 7]) (by kernel_rfl) (by simp) ?_
    refine AllReadyH.cons (i := 1) (o := { dst := some 14, op := Op.call { callee := Callee.value (Operand.func 31), args := #[Operand.tmp 13], argTypes := #[41] }, type := 25, pos := "exact.go:1941", after := #[{ on := 0, ground := Ground.data }], guard := none }) rfl (fun K hK => ?_) (AllReadyH.cons (i := 7) (o := { dst := some 7, op := Op.alloc 25, type := 0, pos := "exact.go:1941", after := #[], guard := none }) rfl (fun K hK => ?_) AllReadyH.nil)
    · go_simp
      refine (toIntervalB_c _ _ _).mono ?_
      rintro e wz1 ⟨rfl, hb1⟩
      have hk1 := hide (S2.call (x0 := l0) (y0 := g0) (x1 := l1) (y1 := g1) (w0 := w) (M := w.heap.size) (B := w.heap.size) hb1 (unhide hk0))
      clear hb1
      refine hK.out _ _ (unhide hk1) (fun hHeld => ?_)
      clear hK K
      try simp only [Act.put, List.setIfInBounds_toArray, List.set_cons_zero, List.set_cons_succ]
      refine wpAnyH_ready (rs := [3, 7]) (by kernel_rfl) (by simp) ?_
      refine AllReadyH.cons (i := 3) (o := { dst := some 16, op := Op.call { callee := Callee.value (Operand.func 31), args := #[Operand.tmp 15], argTypes := #[41] }, type := 25, pos := "exact.go:1941", after := #[{ on := 2, ground := Ground.data }, { on := 1, ground := Ground.chain }], guard := none }) rfl (fun K hK => ?_) (AllReadyH.cons (i := 7) (o := { dst := some 7, op := Op.alloc 25, type := 0, pos := "exact.go:1941", after := #[], guard := none }) rfl (fun K hK => ?_) AllReadyH.nil)
      · go_simp
        refine (toIntervalB_c _ _ _).mono ?_
        rintro e wz2 ⟨rfl, hb2⟩
        have hk2 := hide (S2.call (x0 := l0) (y0 := g0) (x1 := l1) (y1 := g1) (w0 := w) (M := w.heap.size) (B := w.heap.size) hb2 (unhide hk1))
        clear hb2
        refine hK.out _ _ (unhide hk2) (fun hHeld => ?_)
        clear hK K
        try simp only [Act.put, List.setIfInBounds_toArray, List.set_cons_zero, List.set_cons_succ]
        refine wpAnyH_ready (rs := [5, 7]) (by kernel_rfl) (by simp) ?_
        refine AllReadyH.cons (i := 5) (o := { dst := some 18, op := Op.call { callee := Callee.value (Operand.func 33), args := #[Operand.tmp 17], argTypes := #[37] }, type := 37, pos := "exact.go:1941", after := #[{ on := 4, ground := Ground.data }, { on := 3, ground := Ground.chain }], guard := none }) rfl (fun K hK => ?_) (AllReadyH.cons (i := 7) (o := { dst := some 7, op := Op.alloc 25, type := 0, pos := "exact.go:1941", after := #[], guard := none }) rfl (fun K hK => ?_) AllReadyH.nil)
        · go_simp
          refine (toInt64S_c _ _ _ _ ((unhide HZ).to (unhide hk2).2.2.2.2.1 (unhide HZ).lt)).mono ?_
          rintro e wz3 ⟨rfl, ht3, hb3⟩
          have HT3 := hide ht3
          clear ht3
          obtain ⟨gz, hgz⟩ : ∃ gz, gz = wz2.heap.size := ⟨_, rfl⟩
          rw [← hgz] at HT3 ⊢
          have hk3 := hide (S2.call (x0 := l0) (y0 := g0) (x1 := l1) (y1 := g1) (w0 := w) (M := w.heap.size) (B := w.heap.size) hb3 (unhide hk2))
          clear hb3
          clear hgz
          refine hK.out _ _ (unhide hk3) (fun hHeld => ?_)
          clear hK K
          try simp only [Act.put, List.setIfInBounds_toArray, List.set_cons_zero, List.set_cons_succ]
          refine wpAnyH_ready (rs := [6, 7]) (by kernel_rfl) (by simp) ?_
          refine AllReadyH.cons (i := 6) (o := { dst := some 19, op := Op.call { callee := Callee.value (Operand.func 30), args := #[Operand.tmp 14, Operand.tmp 16, Operand.tmp 18], argTypes := #[25, 25, 37] }, type := 25, pos := "exact.go:1941", after := #[{ on := 1, ground := Ground.data }, { on := 3, ground := Ground.data }, { on := 5, ground := Ground.data }, { on := 5, ground := Ground.chain }], guard := none }) rfl (fun K hK => ?_) (AllReadyH.cons (i := 7) (o := { dst := some 7, op := Op.alloc 25, type := 0, pos := "exact.go:1941", after := #[], guard := none }) rfl (fun K hK => ?_) AllReadyH.nil)
          · go_simp
            refine (sIvWiden_c _ _ _ _ _ _ _ _ (unhide HT3)).mono ?_
            rintro e wz4 ⟨rfl, hb4⟩
            have hk4 := hide (S2.call (x0 := l0) (y0 := g0) (x1 := l1) (y1 := g1) (w0 := w) (M := w.heap.size) (B := w.heap.size) hb4 (unhide hk3))
            clear hb4
            refine hK.out _ _ (unhide hk4) (fun hHeld => ?_)
            clear hK K
            try simp only [Act.put, List.setIfInBounds_toArray, List.set_cons_zero, List.set_cons_succ]
            refine wpAnyH_ready (rs := [7]) (by kernel_rfl) (by simp) ?_
            refine AllReadyH.cons (i := 7) (o := { dst := some 7, op := Op.alloc 25, type := 0, pos := "exact.go:1941", after := #[], guard := none }) rfl (fun K hK => ?_) AllReadyH.nil
            have hz5 := hide (Z2.new (unhide hk4) 25)
            have hk5 := hide (S2.alloc (unhide hk4) (Obj.cells #[.int .i64 0, .int .i64 0] 25))
            have HT5 := hide ((unhide HT3).call ((Below.refl _ _).alloc (Nat.le_refl _) (Obj.cells #[.int .i64 0, .int .i64 0] 25)))
            clear HT3
            go_simp
            refine hK.out _ _ (unhide hk5) (fun hHeld => ?_)
            clear hK K
            try simp only [Act.put, List.setIfInBounds_toArray, List.set_cons_zero, List.set_cons_succ]
            clear hHeld
            generalize hg : wz4.alloc (Obj.cells #[.int .i64 0, .int .i64 0] 25) = wz5 at hz5 hk5 HT5 ⊢
            clear hg hk4
            have hHeld := unhide hk5
            obtain ⟨bz, hbz⟩ : ∃ bz, bz = wz4.heap.size := ⟨_, rfl⟩
            rw [← hbz] at hz5 ⊢
            clear hbz
            refine wpAnyH_ready (rs := [8]) (by kernel_rfl) (by simp) ?_
            refine AllReadyH.cons (i := 8) (o := { dst := none, op := Op.store 25 (Operand.tmp 7) (Operand.tmp 19), type := 0, pos := "exact.go:1941", after := #[{ on := 7, ground := Ground.data }, { on := 6, ground := Ground.data }, { on := 6, ground := Ground.chain }, { on := 0, ground := Ground.phase }, { on := 1, ground := Ground.phase }, { on := 2, ground := Ground.phase }, { on := 3, ground := Ground.phase }, { on := 4, ground := Ground.phase }, { on := 5, ground := Ground.phase }, { on := 6, ground := Ground.phase }, { on := 7, ground := Ground.phase }], guard := none }) rfl (fun K hK => ?_) AllReadyH.nil
            have hz := unhide hz5
            obtain ⟨⟨⟨c0, c1⟩, z3, z4⟩, z1, z2⟩ := hz
            go_simp
            refine hK.out _ _ ?_ (fun hHeld => ?_)
            · exact S2.set (S2.set (unhide hk5) z1 z2 _) z1 z2 _
            clear hK K c0 c1 z4 hHeld
            try simp only [Act.put, List.setIfInBounds_toArray, List.set_cons_zero, List.set_cons_succ]
            refine wpAnyH_done (by kernel_rfl) ?_ _
            go_wp2_with fail
            go_meet
            exact Res2.ofZ (unhide hk5) (unhide hz5) _ _
          · have hz4 := hide (Z2.new (unhide hk3) 25)
            have hk4 := hide (S2.alloc (unhide hk3) (Obj.cells #[.int .i64 0, .int .i64 0] 25))
            have HT4 := hide ((unhide HT3).call ((Below.refl _ _).alloc (Nat.le_refl _) (Obj.cells #[.int .i64 0, .int .i64 0] 25)))
            clear HT3
            go_simp
            refine hK.out _ _ (unhide hk4) (fun hHeld => ?_)
            clear hK K
            try simp only [Act.put, List.setIfInBounds_toArray, List.set_cons_zero, List.set_cons_succ]
            clear hHeld
            generalize hg : wz3.alloc (Obj.cells #[.int .i64 0, .int .i64 0] 25) = wz4 at hz4 hk4 HT4 ⊢
            clear hg hk3
            have hHeld := unhide hk4
            obtain ⟨bz, hbz⟩ : ∃ bz, bz = wz3.heap.size := ⟨_, rfl⟩
            rw [← hbz] at hz4 ⊢
            clear hbz
            refine wpAnyH_ready (rs := [6]) (by kernel_rfl) (by simp) ?_
            refine AllReadyH.cons (i := 6) (o := { dst := some 19, op := Op.call { callee := Callee.value (Operand.func 30), args := #[Operand.tmp 14, Operand.tmp 16, Operand.tmp 18], argTypes := #[25, 25, 37] }, type := 25, pos := "exact.go:1941", after := #[{ on := 1, ground := Ground.data }, { on := 3, ground := Ground.data }, { on := 5, ground := Ground.data }, { on := 5, ground := Ground.chain }], guard := none }) rfl (fun K hK => ?_) AllReadyH.nil
            go_simp
            refine (sIvWiden_c _ _ _ _ _ _ _ _ (unhide HT4)).mono ?_
            rintro e wz5 ⟨rfl, hb5⟩
            have hk5 := hide (S2.call (x0 := l0) (y0 := g0) (x1 := l1) (y1 := g1) (w0 := w) (M := w.heap.size) (B := w.heap.size) hb5 (unhide hk4))
            have hz5 := hide (Z2.call hb5 (unhide hz4))
            clear hb5 hz4
            refine hK.out _ _ (unhide hk5) (fun hHeld => ?_)
            clear hK K
            try simp only [Act.put, List.setIfInBounds_toArray, List.set_cons_zero, List.set_cons_succ]
            refine wpAnyH_ready (rs := [8]) (by kernel_rfl) (by simp) ?_
            refine AllReadyH.cons (i := 8) (o := { dst := none, op := Op.store 25 (Operand.tmp 7) (Operand.tmp 19), type := 0, pos := "exact.go:1941", after := #[{ on := 7, ground := Ground.data }, { on := 6, ground := Ground.data }, { on := 6, ground := Ground.chain }, { on := 0, ground := Ground.phase }, { on := 1, ground := Ground.phase }, { on := 2, ground := Ground.phase }, { on := 3, ground := Ground.phase }, { on := 4, ground := Ground.phase }, { on := 5, ground := Ground.phase }, { on := 6, ground := Ground.phase }, { on := 7, ground := Ground.phase }], guard := none }) rfl (fun K hK => ?_) AllReadyH.nil
            have hz := unhide hz5
            obtain ⟨⟨⟨c0, c1⟩, z3, z4⟩, z1, z2⟩ := hz
            go_simp
            refine hK.out _ _ ?_ (fun hHeld => ?_)
            · exact S2.set (S2.set (unhide hk5) z1 z2 _) z1 z2 _
            clear hK K c0 c1 z4 hHeld
            try simp only [Act.put, List.setIfInBounds_toArray, List.set_cons_zero, List.set_cons_succ]
            refine wpAnyH_done (by kernel_rfl) ?_ _
            go_wp2_with fail
            go_meet
            exact Res2.ofZ (unhide hk5) (unhide hz5) _ _
        · have hz3 := hide (Z2.new (unhide hk2) 25)
          have hk3 := hide (S2.alloc (unhide hk2) (Obj.cells #[.int .i64 0, .int .i64 0] 25))
          go_simp
          refine hK.out _ _ (unhide hk3) (fun hHeld => ?_)
          clear hK K
          try simp only [Act.put, List.setIfInBounds_toArray, List.set_cons_zero, List.set_cons_succ]
          clear hHeld
          generalize hg : wz2.alloc (Obj.cells #[.int .i64 0, .int .i64 0] 25) = wz3 at hz3 hk3 ⊢
          clear hg hk2
          have hHeld := unhide hk3
          obtain ⟨bz, hbz⟩ : ∃ bz, bz = wz2.heap.size := ⟨_, rfl⟩
          rw [← hbz] at hz3 ⊢
          clear hbz
          refine wpAnyH_ready (rs := [5]) (by kernel_rfl) (by simp) ?_
          refine AllReadyH.cons (i := 5) (o := { dst := some 18, op := Op.call { callee := Callee.value (Operand.func 33), args := #[Operand.tmp 17], argTypes := #[37] }, type := 37, pos := "exact.go:1941", after := #[{ on := 4, ground := Ground.data }, { on := 3, ground := Ground.chain }], guard := none }) rfl (fun K hK => ?_) AllReadyH.nil
          go_simp
          refine (toInt64S_c _ _ _ _ ((unhide HZ).to (unhide hk3).2.2.2.2.1 (unhide HZ).lt)).mono ?_
          rintro e wz4 ⟨rfl, ht4, hb4⟩
          have HT4 := hide ht4
          clear ht4
          obtain ⟨gz, hgz⟩ : ∃ gz, gz = wz3.heap.size := ⟨_, rfl⟩
          rw [← hgz] at HT4 ⊢
          have hk4 := hide (S2.call (x0 := l0) (y0 := g0) (x1 := l1) (y1 := g1) (w0 := w) (M := w.heap.size) (B := w.heap.size) hb4 (unhide hk3))
          have hz4 := hide (Z2.call hb4 (unhide hz3))
          clear hb4 hz3
          clear hgz
          refine hK.out _ _ (unhide hk4) (fun hHeld => ?_)
          clear hK K
          try simp only [Act.put, List.setIfInBounds_toArray, List.set_cons_zero, List.set_cons_succ]
          refine wpAnyH_ready (rs := [6]) (by kernel_rfl) (by simp) ?_
          refine AllReadyH.cons (i := 6) (o := { dst := some 19, op := Op.call { callee := Callee.value (Operand.func 30), args := #[Operand.tmp 14, Operand.tmp 16, Operand.tmp 18], argTypes := #[25, 25, 37] }, type := 25, pos := "exact.go:1941", after := #[{ on := 1, ground := Ground.data }, { on := 3, ground := Ground.data }, { on := 5, ground := Ground.data }, { on := 5, ground := Ground.chain }], guard := none }) rfl (fun K hK => ?_) AllReadyH.nil
          go_simp
          refine (sIvWiden_c _ _ _ _ _ _ _ _ (unhide HT4)).mono ?_
          rintro e wz5 ⟨rfl, hb5⟩
          have hk5 := hide (S2.call (x0 := l0) (y0 := g0) (x1 := l1) (y1 := g1) (w0 := w) (M := w.heap.size) (B := w.heap.size) hb5 (unhide hk4))
          have hz5 := hide (Z2.call hb5 (unhide hz4))
          clear hb5 hz4
          refine hK.out _ _ (unhide hk5) (fun hHeld => ?_)
          clear hK K
          try simp only [Act.put, List.setIfInBounds_toArray, List.set_cons_zero, List.set_cons_succ]
          refine wpAnyH_ready (rs := [8]) (by kernel_rfl) (by simp) ?_
          refine AllReadyH.cons (i := 8) (o := { dst := none, op := Op.store 25 (Operand.tmp 7) (Operand.tmp 19), type := 0, pos := "exact.go:1941", after := #[{ on := 7, ground := Ground.data }, { on := 6, ground := Ground.data }, { on := 6, ground := Ground.chain }, { on := 0, ground := Ground.phase }, { on := 1, ground := Ground.phase }, { on := 2, ground := Ground.phase }, { on := 3, ground := Ground.phase }, { on := 4, ground := Ground.phase }, { on := 5, ground := Ground.phase }, { on := 6, ground := Ground.phase }, { on := 7, ground := Ground.phase }], guard := none }) rfl (fun K hK => ?_) AllReadyH.nil
          have hz := unhide hz5
          obtain ⟨⟨⟨c0, c1⟩, z3, z4⟩, z1, z2⟩ := hz
          go_simp
          refine hK.out _ _ ?_ (fun hHeld => ?_)
          · exact S2.set (S2.set (unhide hk5) z1 z2 _) z1 z2 _
          clear hK K c0 c1 z4 hHeld
          try simp only [Act.put, List.setIfInBounds_toArray, List.set_cons_zero, List.set_cons_succ]
          refine wpAnyH_done (by kernel_rfl) ?_ _
          go_wp2_with fail
          go_meet
          exact Res2.ofZ (unhide hk5) (unhide hz5) _ _
      · have hz2 := hide (Z2.new (unhide hk1) 25)
        have hk2 := hide (S2.alloc (unhide hk1) (Obj.cells #[.int .i64 0, .int .i64 0] 25))
        go_simp
        refine hK.out _ _ (unhide hk2) (fun hHeld => ?_)
        clear hK K
        try simp only [Act.put, List.setIfInBounds_toArray, List.set_cons_zero, List.set_cons_succ]
        clear hHeld
        generalize hg : wz1.alloc (Obj.cells #[.int .i64 0, .int .i64 0] 25) = wz2 at hz2 hk2 ⊢
        clear hg hk1
        have hHeld := unhide hk2
        obtain ⟨bz, hbz⟩ : ∃ bz, bz = wz1.heap.size := ⟨_, rfl⟩
        rw [← hbz] at hz2 ⊢
        clear hbz
        refine wpAnyH_ready (rs := [3]) (by kernel_rfl) (by simp) ?_
        refine AllReadyH.cons (i := 3) (o := { dst := some 16, op := Op.call { callee := Callee.value (Operand.func 31), args := #[Operand.tmp 15], argTypes := #[41] }, type := 25, pos := "exact.go:1941", after := #[{ on := 2, ground := Ground.data }, { on := 1, ground := Ground.chain }], guard := none }) rfl (fun K hK => ?_) AllReadyH.nil
        go_simp
        refine (toIntervalB_c _ _ _).mono ?_
        rintro e wz3 ⟨rfl, hb3⟩
        have hk3 := hide (S2.call (x0 := l0) (y0 := g0) (x1 := l1) (y1 := g1) (w0 := w) (M := w.heap.size) (B := w.heap.size) hb3 (unhide hk2))
        have hz3 := hide (Z2.call hb3 (unhide hz2))
        clear hb3 hz2
        refine hK.out _ _ (unhide hk3) (fun hHeld => ?_)
        clear hK K
        try simp only [Act.put, List.setIfInBounds_toArray, List.set_cons_zero, List.set_cons_succ]
        refine wpAnyH_ready (rs := [5]) (by kernel_rfl) (by simp) ?_
        refine AllReadyH.cons (i := 5) (o := { dst := some 18, op := Op.call { callee := Callee.value (Operand.func 33), args := #[Operand.tmp 17], argTypes := #[37] }, type := 37, pos := "exact.go:1941", after := #[{ on := 4, ground := Ground.data }, { on := 3, ground := Ground.chain }], guard := none }) rfl (fun K hK => ?_) AllReadyH.nil
        go_simp
        refine (toInt64S_c _ _ _ _ ((unhide HZ).to (unhide hk3).2.2.2.2.1 (unhide HZ).lt)).mono ?_
        rintro e wz4 ⟨rfl, ht4, hb4⟩
        have HT4 := hide ht4
        clear ht4
        obtain ⟨gz, hgz⟩ : ∃ gz, gz = wz3.heap.size := ⟨_, rfl⟩
        rw [← hgz] at HT4 ⊢
        have hk4 := hide (S2.call (x0 := l0) (y0 := g0) (x1 := l1) (y1 := g1) (w0 := w) (M := w.heap.size) (B := w.heap.size) hb4 (unhide hk3))
        have hz4 := hide (Z2.call hb4 (unhide hz3))
        clear hb4 hz3
        clear hgz
        refine hK.out _ _ (unhide hk4) (fun hHeld => ?_)
        clear hK K
        try simp only [Act.put, List.setIfInBounds_toArray, List.set_cons_zero, List.set_cons_succ]
        refine wpAnyH_ready (rs := [6]) (by kernel_rfl) (by simp) ?_
        refine AllReadyH.cons (i := 6) (o := { dst := some 19, op := Op.call { callee := Callee.value (Operand.func 30), args := #[Operand.tmp 14, Operand.tmp 16, Operand.tmp 18], argTypes := #[25, 25, 37] }, type := 25, pos := "exact.go:1941", after := #[{ on := 1, ground := Ground.data }, { on := 3, ground := Ground.data }, { on := 5, ground := Ground.data }, { on := 5, ground := Ground.chain }], guard := none }) rfl (fun K hK => ?_) AllReadyH.nil
        go_simp
        refine (sIvWiden_c _ _ _ _ _ _ _ _ (unhide HT4)).mono ?_
        rintro e wz5 ⟨rfl, hb5⟩
        have hk5 := hide (S2.call (x0 := l0) (y0 := g0) (x1 := l1) (y1 := g1) (w0 := w) (M := w.heap.size) (B := w.heap.size) hb5 (unhide hk4))
        have hz5 := hide (Z2.call hb5 (unhide hz4))
        clear hb5 hz4
        refine hK.out _ _ (unhide hk5) (fun hHeld => ?_)
        clear hK K
        try simp only [Act.put, List.setIfInBounds_toArray, List.set_cons_zero, List.set_cons_succ]
        refine wpAnyH_ready (rs := [8]) (by kernel_rfl) (by simp) ?_
        refine AllReadyH.cons (i := 8) (o := { dst := none, op := Op.store 25 (Operand.tmp 7) (Operand.tmp 19), type := 0, pos := "exact.go:1941", after := #[{ on := 7, ground := Ground.data }, { on := 6, ground := Ground.data }, { on := 6, ground := Ground.chain }, { on := 0, ground := Ground.phase }, { on := 1, ground := Ground.phase }, { on := 2, ground := Ground.phase }, { on := 3, ground := Ground.phase }, { on := 4, ground := Ground.phase }, { on := 5, ground := Ground.phase }, { on := 6, ground := Ground.phase }, { on := 7, ground := Ground.phase }], guard := none }) rfl (fun K hK => ?_) AllReadyH.nil
        have hz := unhide hz5
        obtain ⟨⟨⟨c0, c1⟩, z3, z4⟩, z1, z2⟩ := hz
        go_simp
        refine hK.out _ _ ?_ (fun hHeld => ?_)
        · exact S2.set (S2.set (unhide hk5) z1 z2 _) z1 z2 _
        clear hK K c0 c1 z4 hHeld
        try simp only [Act.put, List.setIfInBounds_toArray, List.set_cons_zero, List.set_cons_succ]
        refine wpAnyH_done (by kernel_rfl) ?_ _
        go_wp2_with fail
        go_meet
        exact Res2.ofZ (unhide hk5) (unhide hz5) _ _
    · have hz1 := hide (Z2.new (unhide hk0) 25)
      have hk1 := hide (S2.alloc (unhide hk0) (Obj.cells #[.int .i64 0, .int .i64 0] 25))
      go_simp
      refine hK.out _ _ (unhide hk1) (fun hHeld => ?_)
      clear hK K
      try simp only [Act.put, List.setIfInBounds_toArray, List.set_cons_zero, List.set_cons_succ]
      clear hHeld
      generalize hg : wz0.alloc (Obj.cells #[.int .i64 0, .int .i64 0] 25) = wz1 at hz1 hk1 ⊢
      clear hg hk0
      have hHeld := unhide hk1
      obtain ⟨bz, hbz⟩ : ∃ bz, bz = wz0.heap.size := ⟨_, rfl⟩
      rw [← hbz] at hz1 ⊢
      clear hbz
      refine wpAnyH_ready (rs := [1]) (by kernel_rfl) (by simp) ?_
      refine AllReadyH.cons (i := 1) (o := { dst := some 14, op := Op.call { callee := Callee.value (Operand.func 31), args := #[Operand.tmp 13], argTypes := #[41] }, type := 25, pos := "exact.go:1941", after := #[{ on := 0, ground := Ground.data }], guard := none }) rfl (fun K hK => ?_) AllReadyH.nil
      go_simp
      refine (toIntervalB_c _ _ _).mono ?_
      rintro e wz2 ⟨rfl, hb2⟩
      have hk2 := hide (S2.call (x0 := l0) (y0 := g0) (x1 := l1) (y1 := g1) (w0 := w) (M := w.heap.size) (B := w.heap.size) hb2 (unhide hk1))
      have hz2 := hide (Z2.call hb2 (unhide hz1))
      clear hb2 hz1
      refine hK.out _ _ (unhide hk2) (fun hHeld => ?_)
      clear hK K
      try simp only [Act.put, List.setIfInBounds_toArray, List.set_cons_zero, List.set_cons_succ]
      refine wpAnyH_ready (rs := [3]) (by kernel_rfl) (by simp) ?_
      refine AllReadyH.cons (i := 3) (o := { dst := some 16, op := Op.call { callee := Callee.value (Operand.func 31), args := #[Operand.tmp 15], argTypes := #[41] }, type := 25, pos := "exact.go:1941", after := #[{ on := 2, ground := Ground.data }, { on := 1, ground := Ground.chain }], guard := none }) rfl (fun K hK => ?_) AllReadyH.nil
      go_simp
      refine (toIntervalB_c _ _ _).mono ?_
      rintro e wz3 ⟨rfl, hb3⟩
      have hk3 := hide (S2.call (x0 := l0) (y0 := g0) (x1 := l1) (y1 := g1) (w0 := w) (M := w.heap.size) (B := w.heap.size) hb3 (unhide hk2))
      have hz3 := hide (Z2.call hb3 (unhide hz2))
      clear hb3 hz2
      refine hK.out _ _ (unhide hk3) (fun hHeld => ?_)
      clear hK K
      try simp only [Act.put, List.setIfInBounds_toArray, List.set_cons_zero, List.set_cons_succ]
      refine wpAnyH_ready (rs := [5]) (by kernel_rfl) (by simp) ?_
      refine AllReadyH.cons (i := 5) (o := { dst := some 18, op := Op.call { callee := Callee.value (Operand.func 33), args := #[Operand.tmp 17], argTypes := #[37] }, type := 37, pos := "exact.go:1941", after := #[{ on := 4, ground := Ground.data }, { on := 3, ground := Ground.chain }], guard := none }) rfl (fun K hK => ?_) AllReadyH.nil
      go_simp
      refine (toInt64S_c _ _ _ _ ((unhide HZ).to (unhide hk3).2.2.2.2.1 (unhide HZ).lt)).mono ?_
      rintro e wz4 ⟨rfl, ht4, hb4⟩
      have HT4 := hide ht4
      clear ht4
      obtain ⟨gz, hgz⟩ : ∃ gz, gz = wz3.heap.size := ⟨_, rfl⟩
      rw [← hgz] at HT4 ⊢
      have hk4 := hide (S2.call (x0 := l0) (y0 := g0) (x1 := l1) (y1 := g1) (w0 := w) (M := w.heap.size) (B := w.heap.size) hb4 (unhide hk3))
      have hz4 := hide (Z2.call hb4 (unhide hz3))
      clear hb4 hz3
      clear hgz
      refine hK.out _ _ (unhide hk4) (fun hHeld => ?_)
      clear hK K
      try simp only [Act.put, List.setIfInBounds_toArray, List.set_cons_zero, List.set_cons_succ]
      refine wpAnyH_ready (rs := [6]) (by kernel_rfl) (by simp) ?_
      refine AllReadyH.cons (i := 6) (o := { dst := some 19, op := Op.call { callee := Callee.value (Operand.func 30), args := #[Operand.tmp 14, Operand.tmp 16, Operand.tmp 18], argTypes := #[25, 25, 37] }, type := 25, pos := "exact.go:1941", after := #[{ on := 1, ground := Ground.data }, { on := 3, ground := Ground.data }, { on := 5, ground := Ground.data }, { on := 5, ground := Ground.chain }], guard := none }) rfl (fun K hK => ?_) AllReadyH.nil
      go_simp
      refine (sIvWiden_c _ _ _ _ _ _ _ _ (unhide HT4)).mono ?_
      rintro e wz5 ⟨rfl, hb5⟩
      have hk5 := hide (S2.call (x0 := l0) (y0 := g0) (x1 := l1) (y1 := g1) (w0 := w) (M := w.heap.size) (B := w.heap.size) hb5 (unhide hk4))
      have hz5 := hide (Z2.call hb5 (unhide hz4))
      clear hb5 hz4
      refine hK.out _ _ (unhide hk5) (fun hHeld => ?_)
      clear hK K
      try simp only [Act.put, List.setIfInBounds_toArray, List.set_cons_zero, List.set_cons_succ]
      refine wpAnyH_ready (rs := [8]) (by kernel_rfl) (by simp) ?_
      refine AllReadyH.cons (i := 8) (o := { dst := none, op := Op.store 25 (Operand.tmp 7) (Operand.tmp 19), type := 0, pos := "exact.go:1941", after := #[{ on := 7, ground := Ground.data }, { on := 6, ground := Ground.data }, { on := 6, ground := Ground.chain }, { on := 0, ground := Ground.phase }, { on := 1, ground := Ground.phase }, { on := 2, ground := Ground.phase }, { on := 3, ground := Ground.phase }, { on := 4, ground := Ground.phase }, { on := 5, ground := Ground.phase }, { on := 6, ground := Ground.phase }, { on := 7, ground := Ground.phase }], guard := none }) rfl (fun K hK => ?_) AllReadyH.nil
      have hz := unhide hz5
      obtain ⟨⟨⟨c0, c1⟩, z3, z4⟩, z1, z2⟩ := hz
      go_simp
      refine hK.out _ _ ?_ (fun hHeld => ?_)
      · exact S2.set (S2.set (unhide hk5) z1 z2 _) z1 z2 _
      clear hK K c0 c1 z4 hHeld
      try simp only [Act.put, List.setIfInBounds_toArray, List.set_cons_zero, List.set_cons_succ]
      refine wpAnyH_done (by kernel_rfl) ?_ _
      go_wp2_with fail
      go_meet
      exact Res2.ofZ (unhide hk5) (unhide hz5) _ _
  case rest =>
  clear hs0
  obtain ⟨b, rfl, cb, hb2, hbs, hs1⟩ := hcut
  have K1 := hide hs1.2.2.2.2.1
  have hz1 := hs1.2.2.2.2.2.2
  have S1 := hide hs1
  have CB := hide cb
  clear hs1 cb
  obtain ⟨wd, rfl⟩ : ∃ wd : World, wd = wc := ⟨_, rfl⟩
  go_wp2_with fail
  refine (toInt64S_c _ _ _ _ ((unhide HZ).to (unhide K1) (unhide HZ).lt)).mono ?_
  rintro e we ⟨rfl, ht, hbe⟩
  have HT := hide ht
  have hs2 : S2 we we.heap.size w.heap.size l0 g0 l1 g1 we := by
    have h := S2.call hbe (unhide S1)
    exact ⟨h.1, h.2.1, h.2.2.1, h.2.2.2.1, Below.refl _ _, Nat.le_refl _, h.2.2.2.2.2.2⟩
  have K2 := hide ((unhide K1).trans (hbe.mono (unhide K1).size))
  have CE := hide (And.intro ((hbe.cell (by exact hbs)).trans (unhide CB).1) ((hbe.cell (by exact hbs)).trans (unhide CB).2))
  have hbs2 : b < we.heap.size := by have := hbe.size; omega
  clear ht hbe K1 S1 CB hz1 hbs
  generalize wd.heap.size = gz at HT ⊢
  go_wp2_with fail
  go_cut [9] (fun p wc => Res2 we we.heap.size w.heap.size l0 g0 l1 g1 p (widL l0 g0 l1 g1 zs) (widH l0 g0 l1 g1 zs) wc)
  case first =>
    have hk0 := hide (S2.drew hs2)
    clear hs2
    obtain ⟨wz0, hw0⟩ : ∃ x, x = we.drew := ⟨_, rfl⟩
    rw [← hw0] at hk0
    refine wp_region_held_drew (S := S2 we we.heap.size w.heap.size l0 g0 l1 g1) (by kernel_rfl) (by rw [← hw0]; exact unhide hk0) (fun hHeld => ?_)
    rw [← hw0] at hHeld ⊢
    clear hw0
    refine wpAnyH_take (i := 0) (oi := { dst := some 22, op := Op.load 41 (Operand.tmp 3), type := 41, pos := "exact.go:1943", after := #[], guard := none }) (v := ?_) rfl (by kernel_rfl) (by kernel_rfl) (by kernel_rfl) (fun _ _ _ h => h) (Or.inl ⟨by rfl, ?_⟩) (by assumption) ?_
    rotate_left
    · (intro w hSw; (try dsimp only at hSw); go_simp; try with_reducible rfl)
    try simp only [Act.put, List.setIfInBounds_toArray, List.set_cons_zero, List.set_cons_succ]
    refine wpAnyH_take (i := 2) (oi := { dst := some 24, op := Op.load 41 (Operand.tmp 4), type := 41, pos := "exact.go:1943", after := #[], guard := none }) (v := ?_) rfl (by kernel_rfl) (by kernel_rfl) (by kernel_rfl) (fun _ _ _ h => h) (Or.inl ⟨by rfl, ?_⟩) (by assumption) ?_
    rotate_left
    · (intro w hSw; (try dsimp only at hSw); go_simp; try with_reducible rfl)
    try simp only [Act.put, List.setIfInBounds_toArray, List.set_cons_zero, List.set_cons_succ]
    refine wpAnyH_take (i := 4) (oi := { dst := some 26, op := Op.move (Operand.tmp 8), type := 37, pos := "exact.go:1943", after := #[], guard := none }) (v := ?_) rfl (by kernel_rfl) (by kernel_rfl) (by kernel_rfl) (fun _ _ _ h => h) (Or.inl ⟨by rfl, ?_⟩) (by assumption) ?_
    rotate_left
    · (intro w hSw; (try dsimp only at hSw); go_simp; try with_reducible rfl)
    try simp only [Act.put, List.setIfInBounds_toArray, List.set_cons_zero, List.set_cons_succ]
    refine wpAnyH_ready (rs := [1, 6]) (by kernel_rfl) (by simp) ?_
    refine AllReadyH.cons (i := 1) (o := { dst := some 23, op := Op.call { callee := Callee.value (Operand.func 31), args := #[Operand.tmp 22], argTypes := #[41] }, type := 25, pos := "exact.go:1943", after := #[{ on := 0, ground := Ground.data }], guard := none }) rfl (fun K hK => ?_) (AllReadyH.cons (i := 6) (o := { dst := some 9, op := Op.alloc 25, type := 0, pos := "exact.go:1943", after := #[], guard := none }) rfl (fun K hK => ?_) AllReadyH.nil)
    · go_simp
      refine (toIntervalB_c _ _ _).mono ?_
      rintro e wz1 ⟨rfl, hb1⟩
      have hk1 := hide (S2.call (x0 := l0) (y0 := g0) (x1 := l1) (y1 := g1) (w0 := we) (M := we.heap.size) (B := w.heap.size) hb1 (unhide hk0))
      clear hb1
      refine hK.out _ _ (unhide hk1) (fun hHeld => ?_)
      clear hK K
      try simp only [Act.put, List.setIfInBounds_toArray, List.set_cons_zero, List.set_cons_succ]
      refine wpAnyH_ready (rs := [3, 6]) (by kernel_rfl) (by simp) ?_
      refine AllReadyH.cons (i := 3) (o := { dst := some 25, op := Op.call { callee := Callee.value (Operand.func 31), args := #[Operand.tmp 24], argTypes := #[41] }, type := 25, pos := "exact.go:1943", after := #[{ on := 2, ground := Ground.data }, { on := 1, ground := Ground.chain }], guard := none }) rfl (fun K hK => ?_) (AllReadyH.cons (i := 6) (o := { dst := some 9, op := Op.alloc 25, type := 0, pos := "exact.go:1943", after := #[], guard := none }) rfl (fun K hK => ?_) AllReadyH.nil)
      · go_simp
        refine (toIntervalB_c _ _ _).mono ?_
        rintro e wz2 ⟨rfl, hb2⟩
        have hk2 := hide (S2.call (x0 := l0) (y0 := g0) (x1 := l1) (y1 := g1) (w0 := we) (M := we.heap.size) (B := w.heap.size) hb2 (unhide hk1))
        clear hb2
        refine hK.out _ _ (unhide hk2) (fun hHeld => ?_)
        clear hK K
        try simp only [Act.put, List.setIfInBounds_toArray, List.set_cons_zero, List.set_cons_succ]
        refine wpAnyH_ready (rs := [5, 6]) (by kernel_rfl) (by simp) ?_
        refine AllReadyH.cons (i := 5) (o := { dst := some 27, op := Op.call { callee := Callee.value (Operand.func 29), args := #[Operand.tmp 23, Operand.tmp 25, Operand.tmp 26], argTypes := #[25, 25, 37] }, type := 25, pos := "exact.go:1943", after := #[{ on := 1, ground := Ground.data }, { on := 3, ground := Ground.data }, { on := 4, ground := Ground.data }, { on := 3, ground := Ground.chain }], guard := none }) rfl (fun K hK => ?_) (AllReadyH.cons (i := 6) (o := { dst := some 9, op := Op.alloc 25, type := 0, pos := "exact.go:1943", after := #[], guard := none }) rfl (fun K hK => ?_) AllReadyH.nil)
        · go_simp
          refine (IvWiden_c _ _ _ _ _ _ _ _ ((unhide HT).to (unhide hk2).2.2.2.2.1 (unhide HT).lt)).mono ?_
          rintro e wz3 ⟨rfl, hb3⟩
          have hk3 := hide (S2.call (x0 := l0) (y0 := g0) (x1 := l1) (y1 := g1) (w0 := we) (M := we.heap.size) (B := w.heap.size) hb3 (unhide hk2))
          clear hb3
          refine hK.out _ _ (unhide hk3) (fun hHeld => ?_)
          clear hK K
          try simp only [Act.put, List.setIfInBounds_toArray, List.set_cons_zero, List.set_cons_succ]
          refine wpAnyH_ready (rs := [6]) (by kernel_rfl) (by simp) ?_
          refine AllReadyH.cons (i := 6) (o := { dst := some 9, op := Op.alloc 25, type := 0, pos := "exact.go:1943", after := #[], guard := none }) rfl (fun K hK => ?_) AllReadyH.nil
          have hz4 := hide (Z2.new (unhide hk3) 25)
          have hk4 := hide (S2.alloc (unhide hk3) (Obj.cells #[.int .i64 0, .int .i64 0] 25))
          go_simp
          refine hK.out _ _ (unhide hk4) (fun hHeld => ?_)
          clear hK K
          try simp only [Act.put, List.setIfInBounds_toArray, List.set_cons_zero, List.set_cons_succ]
          clear hHeld
          generalize hg : wz3.alloc (Obj.cells #[.int .i64 0, .int .i64 0] 25) = wz4 at hz4 hk4 ⊢
          clear hg hk3
          have hHeld := unhide hk4
          obtain ⟨bz, hbz⟩ : ∃ bz, bz = wz3.heap.size := ⟨_, rfl⟩
          rw [← hbz] at hz4 ⊢
          clear hbz
          refine wpAnyH_ready (rs := [7]) (by kernel_rfl) (by simp) ?_
          refine AllReadyH.cons (i := 7) (o := { dst := none, op := Op.store 25 (Operand.tmp 9) (Operand.tmp 27), type := 0, pos := "exact.go:1943", after := #[{ on := 6, ground := Ground.data }, { on := 5, ground := Ground.data }, { on := 5, ground := Ground.chain }, { on := 0, ground := Ground.phase }, { on := 1, ground := Ground.phase }, { on := 2, ground := Ground.phase }, { on := 3, ground := Ground.phase }, { on := 4, ground := Ground.phase }, { on := 5, ground := Ground.phase }, { on := 6, ground := Ground.phase }], guard := none }) rfl (fun K hK => ?_) AllReadyH.nil
          have hz := unhide hz4
          obtain ⟨⟨⟨c0, c1⟩, z3, z4⟩, z1, z2⟩ := hz
          go_simp
          refine hK.out _ _ ?_ (fun hHeld => ?_)
          · exact S2.set (S2.set (unhide hk4) z1 z2 _) z1 z2 _
          clear hK K c0 c1 z4 hHeld
          try simp only [Act.put, List.setIfInBounds_toArray, List.set_cons_zero, List.set_cons_succ]
          refine wpAnyH_done (by kernel_rfl) ?_ _
          go_wp2_with fail
          go_meet
          exact Res2.ofZ (unhide hk4) (unhide hz4) _ _
        · have hz3 := hide (Z2.new (unhide hk2) 25)
          have hk3 := hide (S2.alloc (unhide hk2) (Obj.cells #[.int .i64 0, .int .i64 0] 25))
          go_simp
          refine hK.out _ _ (unhide hk3) (fun hHeld => ?_)
          clear hK K
          try simp only [Act.put, List.setIfInBounds_toArray, List.set_cons_zero, List.set_cons_succ]
          clear hHeld
          generalize hg : wz2.alloc (Obj.cells #[.int .i64 0, .int .i64 0] 25) = wz3 at hz3 hk3 ⊢
          clear hg hk2
          have hHeld := unhide hk3
          obtain ⟨bz, hbz⟩ : ∃ bz, bz = wz2.heap.size := ⟨_, rfl⟩
          rw [← hbz] at hz3 ⊢
          clear hbz
          refine wpAnyH_ready (rs := [5]) (by kernel_rfl) (by simp) ?_
          refine AllReadyH.cons (i := 5) (o := { dst := some 27, op := Op.call { callee := Callee.value (Operand.func 29), args := #[Operand.tmp 23, Operand.tmp 25, Operand.tmp 26], argTypes := #[25, 25, 37] }, type := 25, pos := "exact.go:1943", after := #[{ on := 1, ground := Ground.data }, { on := 3, ground := Ground.data }, { on := 4, ground := Ground.data }, { on := 3, ground := Ground.chain }], guard := none }) rfl (fun K hK => ?_) AllReadyH.nil
          go_simp
          refine (IvWiden_c _ _ _ _ _ _ _ _ ((unhide HT).to (unhide hk3).2.2.2.2.1 (unhide HT).lt)).mono ?_
          rintro e wz4 ⟨rfl, hb4⟩
          have hk4 := hide (S2.call (x0 := l0) (y0 := g0) (x1 := l1) (y1 := g1) (w0 := we) (M := we.heap.size) (B := w.heap.size) hb4 (unhide hk3))
          have hz4 := hide (Z2.call hb4 (unhide hz3))
          clear hb4 hz3
          refine hK.out _ _ (unhide hk4) (fun hHeld => ?_)
          clear hK K
          try simp only [Act.put, List.setIfInBounds_toArray, List.set_cons_zero, List.set_cons_succ]
          refine wpAnyH_ready (rs := [7]) (by kernel_rfl) (by simp) ?_
          refine AllReadyH.cons (i := 7) (o := { dst := none, op := Op.store 25 (Operand.tmp 9) (Operand.tmp 27), type := 0, pos := "exact.go:1943", after := #[{ on := 6, ground := Ground.data }, { on := 5, ground := Ground.data }, { on := 5, ground := Ground.chain }, { on := 0, ground := Ground.phase }, { on := 1, ground := Ground.phase }, { on := 2, ground := Ground.phase }, { on := 3, ground := Ground.phase }, { on := 4, ground := Ground.phase }, { on := 5, ground := Ground.phase }, { on := 6, ground := Ground.phase }], guard := none }) rfl (fun K hK => ?_) AllReadyH.nil
          have hz := unhide hz4
          obtain ⟨⟨⟨c0, c1⟩, z3, z4⟩, z1, z2⟩ := hz
          go_simp
          refine hK.out _ _ ?_ (fun hHeld => ?_)
          · exact S2.set (S2.set (unhide hk4) z1 z2 _) z1 z2 _
          clear hK K c0 c1 z4 hHeld
          try simp only [Act.put, List.setIfInBounds_toArray, List.set_cons_zero, List.set_cons_succ]
          refine wpAnyH_done (by kernel_rfl) ?_ _
          go_wp2_with fail
          go_meet
          exact Res2.ofZ (unhide hk4) (unhide hz4) _ _
      · have hz2 := hide (Z2.new (unhide hk1) 25)
        have hk2 := hide (S2.alloc (unhide hk1) (Obj.cells #[.int .i64 0, .int .i64 0] 25))
        go_simp
        refine hK.out _ _ (unhide hk2) (fun hHeld => ?_)
        clear hK K
        try simp only [Act.put, List.setIfInBounds_toArray, List.set_cons_zero, List.set_cons_succ]
        clear hHeld
        generalize hg : wz1.alloc (Obj.cells #[.int .i64 0, .int .i64 0] 25) = wz2 at hz2 hk2 ⊢
        clear hg hk1
        have hHeld := unhide hk2
        obtain ⟨bz, hbz⟩ : ∃ bz, bz = wz1.heap.size := ⟨_, rfl⟩
        rw [← hbz] at hz2 ⊢
        clear hbz
        refine wpAnyH_ready (rs := [3]) (by kernel_rfl) (by simp) ?_
        refine AllReadyH.cons (i := 3) (o := { dst := some 25, op := Op.call { callee := Callee.value (Operand.func 31), args := #[Operand.tmp 24], argTypes := #[41] }, type := 25, pos := "exact.go:1943", after := #[{ on := 2, ground := Ground.data }, { on := 1, ground := Ground.chain }], guard := none }) rfl (fun K hK => ?_) AllReadyH.nil
        go_simp
        refine (toIntervalB_c _ _ _).mono ?_
        rintro e wz3 ⟨rfl, hb3⟩
        have hk3 := hide (S2.call (x0 := l0) (y0 := g0) (x1 := l1) (y1 := g1) (w0 := we) (M := we.heap.size) (B := w.heap.size) hb3 (unhide hk2))
        have hz3 := hide (Z2.call hb3 (unhide hz2))
        clear hb3 hz2
        refine hK.out _ _ (unhide hk3) (fun hHeld => ?_)
        clear hK K
        try simp only [Act.put, List.setIfInBounds_toArray, List.set_cons_zero, List.set_cons_succ]
        refine wpAnyH_ready (rs := [5]) (by kernel_rfl) (by simp) ?_
        refine AllReadyH.cons (i := 5) (o := { dst := some 27, op := Op.call { callee := Callee.value (Operand.func 29), args := #[Operand.tmp 23, Operand.tmp 25, Operand.tmp 26], argTypes := #[25, 25, 37] }, type := 25, pos := "exact.go:1943", after := #[{ on := 1, ground := Ground.data }, { on := 3, ground := Ground.data }, { on := 4, ground := Ground.data }, { on := 3, ground := Ground.chain }], guard := none }) rfl (fun K hK => ?_) AllReadyH.nil
        go_simp
        refine (IvWiden_c _ _ _ _ _ _ _ _ ((unhide HT).to (unhide hk3).2.2.2.2.1 (unhide HT).lt)).mono ?_
        rintro e wz4 ⟨rfl, hb4⟩
        have hk4 := hide (S2.call (x0 := l0) (y0 := g0) (x1 := l1) (y1 := g1) (w0 := we) (M := we.heap.size) (B := w.heap.size) hb4 (unhide hk3))
        have hz4 := hide (Z2.call hb4 (unhide hz3))
        clear hb4 hz3
        refine hK.out _ _ (unhide hk4) (fun hHeld => ?_)
        clear hK K
        try simp only [Act.put, List.setIfInBounds_toArray, List.set_cons_zero, List.set_cons_succ]
        refine wpAnyH_ready (rs := [7]) (by kernel_rfl) (by simp) ?_
        refine AllReadyH.cons (i := 7) (o := { dst := none, op := Op.store 25 (Operand.tmp 9) (Operand.tmp 27), type := 0, pos := "exact.go:1943", after := #[{ on := 6, ground := Ground.data }, { on := 5, ground := Ground.data }, { on := 5, ground := Ground.chain }, { on := 0, ground := Ground.phase }, { on := 1, ground := Ground.phase }, { on := 2, ground := Ground.phase }, { on := 3, ground := Ground.phase }, { on := 4, ground := Ground.phase }, { on := 5, ground := Ground.phase }, { on := 6, ground := Ground.phase }], guard := none }) rfl (fun K hK => ?_) AllReadyH.nil
        have hz := unhide hz4
        obtain ⟨⟨⟨c0, c1⟩, z3, z4⟩, z1, z2⟩ := hz
        go_simp
        refine hK.out _ _ ?_ (fun hHeld => ?_)
        · exact S2.set (S2.set (unhide hk4) z1 z2 _) z1 z2 _
        clear hK K c0 c1 z4 hHeld
        try simp only [Act.put, List.setIfInBounds_toArray, List.set_cons_zero, List.set_cons_succ]
        refine wpAnyH_done (by kernel_rfl) ?_ _
        go_wp2_with fail
        go_meet
        exact Res2.ofZ (unhide hk4) (unhide hz4) _ _
    · have hz1 := hide (Z2.new (unhide hk0) 25)
      have hk1 := hide (S2.alloc (unhide hk0) (Obj.cells #[.int .i64 0, .int .i64 0] 25))
      go_simp
      refine hK.out _ _ (unhide hk1) (fun hHeld => ?_)
      clear hK K
      try simp only [Act.put, List.setIfInBounds_toArray, List.set_cons_zero, List.set_cons_succ]
      clear hHeld
      generalize hg : wz0.alloc (Obj.cells #[.int .i64 0, .int .i64 0] 25) = wz1 at hz1 hk1 ⊢
      clear hg hk0
      have hHeld := unhide hk1
      obtain ⟨bz, hbz⟩ : ∃ bz, bz = wz0.heap.size := ⟨_, rfl⟩
      rw [← hbz] at hz1 ⊢
      clear hbz
      refine wpAnyH_ready (rs := [1]) (by kernel_rfl) (by simp) ?_
      refine AllReadyH.cons (i := 1) (o := { dst := some 23, op := Op.call { callee := Callee.value (Operand.func 31), args := #[Operand.tmp 22], argTypes := #[41] }, type := 25, pos := "exact.go:1943", after := #[{ on := 0, ground := Ground.data }], guard := none }) rfl (fun K hK => ?_) AllReadyH.nil
      go_simp
      refine (toIntervalB_c _ _ _).mono ?_
      rintro e wz2 ⟨rfl, hb2⟩
      have hk2 := hide (S2.call (x0 := l0) (y0 := g0) (x1 := l1) (y1 := g1) (w0 := we) (M := we.heap.size) (B := w.heap.size) hb2 (unhide hk1))
      have hz2 := hide (Z2.call hb2 (unhide hz1))
      clear hb2 hz1
      refine hK.out _ _ (unhide hk2) (fun hHeld => ?_)
      clear hK K
      try simp only [Act.put, List.setIfInBounds_toArray, List.set_cons_zero, List.set_cons_succ]
      refine wpAnyH_ready (rs := [3]) (by kernel_rfl) (by simp) ?_
      refine AllReadyH.cons (i := 3) (o := { dst := some 25, op := Op.call { callee := Callee.value (Operand.func 31), args := #[Operand.tmp 24], argTypes := #[41] }, type := 25, pos := "exact.go:1943", after := #[{ on := 2, ground := Ground.data }, { on := 1, ground := Ground.chain }], guard := none }) rfl (fun K hK => ?_) AllReadyH.nil
      go_simp
      refine (toIntervalB_c _ _ _).mono ?_
      rintro e wz3 ⟨rfl, hb3⟩
      have hk3 := hide (S2.call (x0 := l0) (y0 := g0) (x1 := l1) (y1 := g1) (w0 := we) (M := we.heap.size) (B := w.heap.size) hb3 (unhide hk2))
      have hz3 := hide (Z2.call hb3 (unhide hz2))
      clear hb3 hz2
      refine hK.out _ _ (unhide hk3) (fun hHeld => ?_)
      clear hK K
      try simp only [Act.put, List.setIfInBounds_toArray, List.set_cons_zero, List.set_cons_succ]
      refine wpAnyH_ready (rs := [5]) (by kernel_rfl) (by simp) ?_
      refine AllReadyH.cons (i := 5) (o := { dst := some 27, op := Op.call { callee := Callee.value (Operand.func 29), args := #[Operand.tmp 23, Operand.tmp 25, Operand.tmp 26], argTypes := #[25, 25, 37] }, type := 25, pos := "exact.go:1943", after := #[{ on := 1, ground := Ground.data }, { on := 3, ground := Ground.data }, { on := 4, ground := Ground.data }, { on := 3, ground := Ground.chain }], guard := none }) rfl (fun K hK => ?_) AllReadyH.nil
      go_simp
      refine (IvWiden_c _ _ _ _ _ _ _ _ ((unhide HT).to (unhide hk3).2.2.2.2.1 (unhide HT).lt)).mono ?_
      rintro e wz4 ⟨rfl, hb4⟩
      have hk4 := hide (S2.call (x0 := l0) (y0 := g0) (x1 := l1) (y1 := g1) (w0 := we) (M := we.heap.size) (B := w.heap.size) hb4 (unhide hk3))
      have hz4 := hide (Z2.call hb4 (unhide hz3))
      clear hb4 hz3
      refine hK.out _ _ (unhide hk4) (fun hHeld => ?_)
      clear hK K
      try simp only [Act.put, List.setIfInBounds_toArray, List.set_cons_zero, List.set_cons_succ]
      refine wpAnyH_ready (rs := [7]) (by kernel_rfl) (by simp) ?_
      refine AllReadyH.cons (i := 7) (o := { dst := none, op := Op.store 25 (Operand.tmp 9) (Operand.tmp 27), type := 0, pos := "exact.go:1943", after := #[{ on := 6, ground := Ground.data }, { on := 5, ground := Ground.data }, { on := 5, ground := Ground.chain }, { on := 0, ground := Ground.phase }, { on := 1, ground := Ground.phase }, { on := 2, ground := Ground.phase }, { on := 3, ground := Ground.phase }, { on := 4, ground := Ground.phase }, { on := 5, ground := Ground.phase }, { on := 6, ground := Ground.phase }], guard := none }) rfl (fun K hK => ?_) AllReadyH.nil
      have hz := unhide hz4
      obtain ⟨⟨⟨c0, c1⟩, z3, z4⟩, z1, z2⟩ := hz
      go_simp
      refine hK.out _ _ ?_ (fun hHeld => ?_)
      · exact S2.set (S2.set (unhide hk4) z1 z2 _) z1 z2 _
      clear hK K c0 c1 z4 hHeld
      try simp only [Act.put, List.setIfInBounds_toArray, List.set_cons_zero, List.set_cons_succ]
      refine wpAnyH_done (by kernel_rfl) ?_ _
      go_wp2_with fail
      go_meet
      exact Res2.ofZ (unhide hk4) (unhide hz4) _ _
  case rest =>
  clear hs2
  obtain ⟨b2, rfl, ⟨d0, d1⟩, _, _, hs3⟩ := hcut
  have kb := hs3.2.2.2.2.1
  have e0 : wc.cell? ⟨b, 0, none⟩ = some (.int .i64 (widL l0 g0 l1 g1 zs)) := (kb.cell (by exact hbs2)).trans (unhide CE).1
  have e1 : wc.cell? ⟨b, 1, none⟩ = some (.int .i64 (widH l0 g0 l1 g1 zs)) := (kb.cell (by exact hbs2)).trans (unhide CE).2
  have K3 := hide ((unhide K2).trans (kb.mono (unhide K2).size))
  have HT3 := hide ((unhide HT).to kb (unhide HT).lt)
  clear kb hs3 CE
  go_wp2_with fail
  refine (eqInterval_c _ _ _).mono ?_
  rintro e w4 ⟨rfl, hb4⟩
  have K4 := hide ((unhide K3).trans (hb4.mono (unhide K3).size))
  have HT4 := hide ((unhide HT3).call hb4)
  clear hb4 K3 HT3
  go_wp2_with fail
  refine (toInt64S_c _ _ _ _ ((unhide HZ).to (unhide K4) (unhide HZ).lt)).mono ?_
  rintro e w5 ⟨rfl, ht, hb5⟩
  have K5 := hide ((unhide K4).trans (hb5.mono (unhide K4).size))
  have HT5 := hide ((unhide HT4).call hb5)
  have HU := hide ht
  clear ht hb5 K4 HT4
  go_wp2_with fail
  refine (eqInt64S_c _ _ _ _ _ _ (unhide HT5) (unhide HU)).mono ?_
  rintro e w6 ⟨rfl, m, rfl⟩
  go_wp2
  go_ret
  exact ⟨rfl, below_drewN (unhide K5) m⟩

/-! The row's step. -/
set_option maxRecDepth 100000 in
theorem lifted (os : Os) (started : os.Started) (H : Type) (enc : TypeId × Value → H) :
    ReturnsInHanded {} Try.checked os 11 .any (Rows.fnExactIvWidenSpec.pre6 enc Try.prog Try.f11 Rows.fnExactIvWidenRow.domain false) (Rows.fnExactIvWidenSpec.post enc Try.prog Try.f11 false true false false) := by
  refine returnsInHanded_of_change (C := Try.checked) own started (by kernel_rfl) Try.func11
    (ChangeSpec.witness6 (enc := enc) (C := Try.checked) false ⟨#[], #[.agg #[.int .i64 0, .int .i64 0], .agg #[.int .i64 0, .int .i64 0], .slice none 0 0], []⟩ 8 (by kernel_rfl) (by kernel_rfl) (by kernel_rfl) (by kernel_rfl)) ?_
  intro W base args ds gs before hval0 hW hcnd _
  have hval : ∀ (j : Nat) t v, Try.f11.params[j]? = some t → args[j]? = some v → Value.okWide Try.prog W .any base t v := hval0
  have hW' := hW
  obtain ⟨p, q, hA0, hV, rfl, hfz, hnd⟩ := hW
  have hA : DataW.TrodAll enc Try.prog W 0 (fun _ => true) true Try.f11.params.toList args.toList ds p := hA0
  rw [Try.params11] at hA hval
  obtain ⟨v0, vs0, d0, ds0, p0, q0, hargs, rfl, rfl, h0, r0⟩ := trodAll_cons hA
  obtain ⟨v1, vs1, d1, ds1, p1, q1, rfl, rfl, rfl, h1, r1⟩ := trodAll_cons r0
  obtain ⟨v2, vs2, d2, ds2, p2, q2, rfl, rfl, rfl, h2, r2⟩ := trodAll_cons r1
  obtain ⟨rfl, rfl, rfl⟩ := trodAll_nil r2
  obtain rfl : args = #[v0, v1, v2] := by cases args; simp_all
  obtain ⟨rfl, rfl⟩ := trodVars_none hV
  have k0 := h0
  have lt0 : ∀ x ∈ p0, x.block < W.heap.size := by obtain ⟨m, hm⟩ := k0; exact DataW.trod_lt m _ _ _ hm
  obtain ⟨l0, g0, rfl, i0, j0⟩ : ∃ l g, v0 = .agg #[.int .i64 l, .int .i64 g] ∧ In l ∧ In g := by
    obtain ⟨c0, c1, y0, y1, m, e1, _, _, hy0, hy1⟩ := Joins.open_agg2 Try.underlying41 (by kernel_rfl) (by kernel_rfl) (hval 0 41 v0 rfl rfl) h0
    obtain ⟨a, q0, _, wa⟩ := DataW.trod_int Try.underlying2 hy0
    obtain ⟨b, q1, _, wb⟩ := DataW.trod_int Try.underlying2 hy1
    simp at q0 q1
    subst q0 q1
    exact ⟨a, b, e1, bounds_i64 wa, bounds_i64 wb⟩
  have k1 := h1
  have lt1 : ∀ x ∈ p1, x.block < W.heap.size := by obtain ⟨m, hm⟩ := k1; exact DataW.trod_lt m _ _ _ hm
  obtain ⟨l1, g1, rfl, i1, j1⟩ : ∃ l g, v1 = .agg #[.int .i64 l, .int .i64 g] ∧ In l ∧ In g := by
    obtain ⟨c0, c1, y0, y1, m, e1, _, _, hy0, hy1⟩ := Joins.open_agg2 Try.underlying41 (by kernel_rfl) (by kernel_rfl) (hval 1 41 v1 rfl rfl) h1
    obtain ⟨a, q0, _, wa⟩ := DataW.trod_int Try.underlying2 hy0
    obtain ⟨b, q1, _, wb⟩ := DataW.trod_int Try.underlying2 hy1
    simp at q0 q1
    subst q0 q1
    exact ⟨a, b, e1, bounds_i64 wa, bounds_i64 wb⟩
  obtain ⟨a2, len2, cap2, rfl⟩ := okWide_slice Try.underlying37 (hval 2 37 v2 rfl rfl)
  have k2 := h2
  have lt2 : ∀ x ∈ p2, x.block < W.heap.size := by obtain ⟨m, hm⟩ := k2; exact DataW.trod_lt m _ _ _ hm
  obtain ⟨z2, w2⟩ : ∃ zs, IsRow .i64 W a2 len2 cap2 zs := by
    obtain ⟨fuel, hf⟩ := h2
    rcases open_ints Try.underlying37 Try.underlying2 (by kernel_rfl) hf with ⟨hcs, _⟩ | ⟨x, l, c, zs, hcs, _, hl, hm, hz, _, hcell, hwz⟩
    · simp [Value.cells] at hcs
      obtain ⟨rfl, rfl, rfl⟩ := hcs
      exact ⟨[], .inl ⟨rfl, rfl, rfl, rfl⟩⟩
    · simp [Value.cells] at hcs
      obtain ⟨rfl, rfl, rfl⟩ := hcs
      exact ⟨zs, .inr ⟨_, rfl, hl, hm, by simpa using hz, hcell, hwz⟩⟩
  clear hA0 hval0
  refine (walk l0 g0 l1 g1 a2 len2 cap2 z2 W i0 j0 i1 j1 w2).mono fun e W' ⟨he, bel⟩ => ?_
  subst he
  exact ⟨_, rfl, _, _, _, [], _, [], hW', trodAll_mk1 (shut_bool Try.underlying4 _), (trodAll_cons_mk (Below.trod laidOut (by kernel_rfl) (of_decide_eq_true (by kernel_rfl)) k0 bel lt0) (trodAll_cons_mk (Below.trod laidOut (by kernel_rfl) (of_decide_eq_true (by kernel_rfl)) k1 bel lt1) (trodAll_cons_mk (Below.trod laidOut (by kernel_rfl) (of_decide_eq_true (by kernel_rfl)) k2 bel lt2) trodAll_mk0))), rfl, bel.frame _, fun h => by cases h⟩

theorem over : Rows.fnExactIvWidenRow.holds Try.pinned (OpenSpec.ofChange Rows.fnExactIvWidenSpec) :=
  OpenClaim.holds_of_wide 11 Try.f11 rfl rfl rfl rfl rfl rfl rfl ⟨rfl, rfl, rfl, rfl, rfl⟩ rfl rfl rfl rfl rfl (by kernel_rfl) Try.func11 (by kernel_rfl)
    (of_decide_eq_true (by kernel_rfl)) (by unfold Func.isWrapper; first | (rw [if_pos (by decide +kernel)]; kernel_rfl) | (rw [if_neg (by decide +kernel)]; exact ⟨rfl, rfl⟩))
    (fun os started H enc _ => lifted os started H enc)
end Go.Proofs.Ytojakiiohbmlaaa.fnExactIvWiden

namespace Go.Proofs.Ytojakiiohbmlaaa
/-- The given statement. -/
theorem fnExactIvWiden_holds : Rows.FnExactIvWidenSaid := fnExactIvWiden.over
#print axioms fnExactIvWiden_holds
end Go.Proofs.Ytojakiiohbmlaaa
