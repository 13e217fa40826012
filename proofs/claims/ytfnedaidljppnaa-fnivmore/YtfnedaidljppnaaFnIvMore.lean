/- Proved here: whatever the arguments, a call of laws.FnIvMore returns true and leaves its arguments as they were. No condition beside the row's own. -/
import Derived.Test.YtfnedaidljppnaaRows
import Derived.WalkKit
import Derived.ProofKit
import Derived.OpenShut
import Derived.ShutString
import Derived.ChangeOld
import Derived.Below
import Derived.Lib.SmallJoins
import Derived.Test.YtfnedaidljppnaaReadC
import Derived.Test.YtfnedaidljppnaaDrawC
import Derived.Test.YtfnedaidljppnaaIvC
import Derived.Test.YtfnedaidljppnaaIvD
import Derived.Test.YtfnedaidljppnaaTwoR
namespace Go.Proofs.Ytfnedaidljppnaa.fnIvMore
open Go.Iv
open Go.ChangeShapes Go.WideShapes Go.ChangeAt Go.RowKit
open Go.ChangeMaps (open_string shut_string)
set_option linter.unusedVariables false
set_option linter.unusedSimpArgs false

theorem own : ownKnob Try.prog.godebug = none := by kernel_rfl
theorem laidOut : laidOutB Try.prog = true := by kernel_rfl

/-- What the walk is told of a slice of integers that came in. -/
def IsRow (k : IntKind) (w : World) (a : Option Addr) (len cap : Nat) (zs : List Int) : Prop :=
  (a = none ∧ len = 0 ∧ cap = 0 ∧ zs = []) ∨
  ∃ x, a = some x ∧ len ≤ cap ∧ cap ≤ maxLen ∧ zs.length = cap ∧ (∀ i, i < zs.length → w.cell? (x.add i) = some (.int k (zs.getD i 0))) ∧ ∀ n ∈ zs, (Lit.int k n).wf = true

/-! The walk of the law. -/
set_option maxRecDepth 100000 in
set_option maxHeartbeats 16000000 in
theorem walk (a0 : Option Addr) (len0 cap0 : Nat) (z0 : List Int) (a1 : Option Addr) (len1 cap1 : Nat) (z1 : List Int) (w : World) (w0 : IsRow .u8 w a0 len0 cap0 z0) (w1 : IsRow .u8 w a1 len1 cap1 z1) :
    Calls Try.prog 4 #[.slice a0 len0 cap0, .slice a1 len1 cap1] w fun e w' => e = .returned (.bool true) ∧ Below w.heap.size w w' := by
  --HEAVIER
  by_cases hbig : 1048576 < len0
  · have hm := row_len w0
    clear w0 w1
    go_enter Try.func4, Try.ntmps4
    go_wp2_with fail
    refine (big_yes _ _ _ hbig hm _).mono ?_
    rintro e w' ⟨rfl, rfl⟩
    go_wp2
    go_ret
    exact ⟨rfl, Below.refl _ _⟩
  have hs : len0 ≤ 1048576 := by omega
  by_cases hbig1 : 1048576 < len1
  · have hm := row_len w1
    clear w0 w1 hbig
    go_enter Try.func4, Try.ntmps4
    go_wp2_with fail
    refine (big_c _ _ _ hs _).mono ?_
    rintro e w' ⟨rfl, rfl⟩
    go_wp2_with fail
    refine (big_yes _ _ _ hbig1 hm _).mono ?_
    rintro e w' ⟨rfl, rfl⟩
    go_wp2
    go_ret
    exact ⟨rfl, Below.refl _ _⟩
  have hs1 : len1 ≤ 1048576 := by omega
  have CD := hide (code_of_row w0 hs)
  have CD1 := hide (code_of_row w1 hs1)
  clear w0 w1 hbig hbig1
  go_enter Try.func4, Try.ntmps4
  go_wp2_with fail
  refine (big_c _ _ _ hs _).mono ?_
  rintro e w' ⟨rfl, rfl⟩
  go_wp2_with fail
  refine (big_c _ _ _ hs1 _).mono ?_
  rintro e w' ⟨rfl, rfl⟩
  go_wp2_with fail
  refine (DrawIvMul_c _ _ _ _ ?_).mono ?_
  · first | exact (unhide CD) | exact (unhide CD).alloc _ | exact ((unhide CD).alloc _).alloc _
  rintro e w1 ⟨al, ah, bl, bh, rfl, hal, hah, hbl, hbh, hb⟩
  have HS := hide (show S2 w' w'.heap.size w1.heap.size al ah bl bh ((w1.alloc (Obj.cells #[.int .i64 al, .int .i64 ah] 25)).alloc (Obj.cells #[.int .i64 bl, .int .i64 bh] 25)) from ⟨by simp, by simp, by simp, by simp, (hb.alloc hb.size _).alloc (by have := hb.size; simp; omega) _, by have := hb.size; simp; omega, by simp⟩)
  clear hb
  go_wp2_with fail
  generalize (w1.alloc (Obj.cells #[.int .i64 al, .int .i64 ah] 25)).alloc (Obj.cells #[.int .i64 bl, .int .i64 bh] 25) = W1 at HS ⊢
  generalize w1.heap.size = A at HS ⊢
  refine (DrawIvSub_c _ _ _ _ ((unhide CD1).below (unhide HS).2.2.2.2.1)).mono ?_
  rintro e w1b ⟨cl, ch, dl, dh, rfl, hcl, hch, hdl, hdh, hb⟩
  have HI := hide (And.intro (And.intro hal (And.intro hah (And.intro hbl hbh))) (And.intro hcl (And.intro hch (And.intro hdl hdh))))
  have hs1 := S2.call hb (unhide HS)
  have HS8 := hide (show S8 w' w'.heap.size A w1b.heap.size al ah bl bh cl ch dl dh ((w1b.alloc (Obj.cells #[.int .i64 cl, .int .i64 ch] 25)).alloc (Obj.cells #[.int .i64 dl, .int .i64 dh] 25)) by
    have h := S2.alloc (S2.alloc hs1 (Obj.cells #[.int .i64 cl, .int .i64 ch] 25)) (Obj.cells #[.int .i64 dl, .int .i64 dh] 25)
    exact ⟨h.1, h.2.1, h.2.2.1, h.2.2.2.1, by simp, by simp, by simp, by simp, hide ⟨h.2.2.2.2.1, h.2.2.2.2.2.1, h.2.2.2.2.2.2, by simp⟩⟩)
  clear hal hah hbl hbh hcl hch hdl hdh hb HS hs1 CD1
  go_wp2_with fail
  generalize (w1b.alloc (Obj.cells #[.int .i64 cl, .int .i64 ch] 25)).alloc (Obj.cells #[.int .i64 dl, .int .i64 dh] 25) = W2 at HS8 ⊢
  generalize w1b.heap.size = E at HS8 ⊢
  refine (byteOf_c _ _ _ 4 (by decide) _ ((unhide CD).below (unhide (unhide HS8).2.2.2.2.2.2.2.2).1)).mono ?_
  rintro e w1c ⟨n, rfl, n0, n1, rfl⟩
  have s0 := (unhide HS8).1
  have s1 := (unhide HS8).2.1
  have s2 := (unhide HS8).2.2.1
  have s3 := (unhide HS8).2.2.2.1
  have s4 := (unhide HS8).2.2.2.2.1
  have s5 := (unhide HS8).2.2.2.2.2.1
  have s6 := (unhide HS8).2.2.2.2.2.2.1
  have s7 := (unhide HS8).2.2.2.2.2.2.2.1
  go_wp2_with fail
  clear s0 s1 s2 s3 s4 s5 s6 s7
  obtain ⟨k, hk⟩ : ∃ k, k = n % 5 := ⟨_, rfl⟩
  have k0 : 0 ≤ k := by omega
  have k4 : k ≤ 4 := by omega
  rw [← hk]
  clear hk n0 n1 CD
  refine (op_any k al ah bl bh k0 k4 (unhide HI).1.1 (unhide HI).1.2.1 (unhide HI).1.2.2.1 (unhide HI).1.2.2.2 _).mono ?_
  rintro e w2 ⟨rfl, hb2⟩
  obtain ⟨V, hV⟩ : ∃ V, V = opV k al ah bl bh := ⟨_, rfl⟩
  rw [← hV]
  have HV := hide hV
  have P := hide (And.intro (S8.alloc (S8.alloc (S8.call hb2 (unhide HS8)) (Obj.cells #[.int .i64 V.lo, .int .i64 V.hi, .bool V.live, .int .i64 V.al] 30)) (Obj.cells #[.int .i64 V.lo, .int .i64 V.hi, .bool V.live, .int .i64 V.al] 30)) (And.intro (C4.call ((Below.refl _ _).alloc (Nat.le_refl _) (Obj.cells #[.int .i64 V.lo, .int .i64 V.hi, .bool V.live, .int .i64 V.al] 30)) (C4.new w2 V.lo V.hi V.live V.al 30)) (C4.new (w2.alloc (Obj.cells #[.int .i64 V.lo, .int .i64 V.hi, .bool V.live, .int .i64 V.al] 30)) V.lo V.hi V.live V.al 30)))
  clear hb2 hV HS8
  have s0 := (unhide P).1.1
  have s1 := (unhide P).1.2.1
  have s2 := (unhide P).1.2.2.1
  have s3 := (unhide P).1.2.2.2.1
  have s4 := (unhide P).1.2.2.2.2.1
  have s5 := (unhide P).1.2.2.2.2.2.1
  have s6 := (unhide P).1.2.2.2.2.2.2.1
  have s7 := (unhide P).1.2.2.2.2.2.2.2.1
  have v0 := (unhide P).2.1.1.1
  have v1 := (unhide P).2.1.1.2.1
  have v2 := (unhide P).2.1.1.2.2.1
  have v3 := (unhide P).2.1.1.2.2.2
  have u0 := (unhide P).2.2.1.1
  have u1 := (unhide P).2.2.1.2.1
  have u2 := (unhide P).2.2.1.2.2.1
  have u3 := (unhide P).2.2.1.2.2.2
  go_wp2_with fail
  generalize hW3 : (w2.alloc (Obj.cells #[.int .i64 V.lo, .int .i64 V.hi, .bool V.live, .int .i64 V.al] 30)).alloc (Obj.cells #[.int .i64 V.lo, .int .i64 V.hi, .bool V.live, .int .i64 V.al] 30) = W3 at P ⊢
  have hz : (w2.alloc (Obj.cells #[.int .i64 V.lo, .int .i64 V.hi, .bool V.live, .int .i64 V.al] 30)).heap.size = w2.heap.size + 1 := by simp
  rw [hz] at P
  clear hz
  clear s0 s1 s2 s3 s4 s5 s6 s7 v0 v1 v2 v3 u0 u1 u2 u3
  clear hW3
  generalize w2.heap.size = C at P ⊢
  have s0 := (unhide P).1.1
  have s1 := (unhide P).1.2.1
  have s2 := (unhide P).1.2.2.1
  have s3 := (unhide P).1.2.2.2.1
  have s4 := (unhide P).1.2.2.2.2.1
  have s5 := (unhide P).1.2.2.2.2.2.1
  have s6 := (unhide P).1.2.2.2.2.2.2.1
  have s7 := (unhide P).1.2.2.2.2.2.2.2.1
  have v0 := (unhide P).2.1.1.1
  have v1 := (unhide P).2.1.1.2.1
  have v2 := (unhide P).2.1.1.2.2.1
  have v3 := (unhide P).2.1.1.2.2.2
  have u0 := (unhide P).2.2.1.1
  have u1 := (unhide P).2.2.1.2.1
  have u2 := (unhide P).2.2.1.2.2.1
  have u3 := (unhide P).2.2.1.2.2.2
  refine (sIvOk_c _ _ _).mono ?_
  rintro e wo0 ⟨rfl, hb⟩
  have P := hide (And.intro (S8.call hb (unhide P).1) (And.intro (C4.call hb (unhide P).2.1) (C4.call hb (unhide P).2.2)))
  clear hb
  clear s0 s1 s2 s3 s4 s5 s6 s7 v0 v1 v2 v3 u0 u1 u2 u3
  have s0 := (unhide P).1.1
  have s1 := (unhide P).1.2.1
  have s2 := (unhide P).1.2.2.1
  have s3 := (unhide P).1.2.2.2.1
  have s4 := (unhide P).1.2.2.2.2.1
  have s5 := (unhide P).1.2.2.2.2.2.1
  have s6 := (unhide P).1.2.2.2.2.2.2.1
  have s7 := (unhide P).1.2.2.2.2.2.2.2.1
  have v0 := (unhide P).2.1.1.1
  have v1 := (unhide P).2.1.1.2.1
  have v2 := (unhide P).2.1.1.2.2.1
  have v3 := (unhide P).2.1.1.2.2.2
  have u0 := (unhide P).2.2.1.1
  have u1 := (unhide P).2.2.1.2.1
  have u2 := (unhide P).2.2.1.2.2.1
  have u3 := (unhide P).2.2.1.2.2.2
  by_cases h0 : al ≤ ah
  · have o0 : okB al ah = true := decide_eq_true h0
    go_wp2_with fail
    refine (sIvOk_c _ _ _).mono ?_
    rintro e wo1 ⟨rfl, hb⟩
    have P := hide (And.intro (S8.call hb (unhide P).1) (And.intro (C4.call hb (unhide P).2.1) (C4.call hb (unhide P).2.2)))
    clear hb
    clear s0 s1 s2 s3 s4 s5 s6 s7 v0 v1 v2 v3 u0 u1 u2 u3
    have s0 := (unhide P).1.1
    have s1 := (unhide P).1.2.1
    have s2 := (unhide P).1.2.2.1
    have s3 := (unhide P).1.2.2.2.1
    have s4 := (unhide P).1.2.2.2.2.1
    have s5 := (unhide P).1.2.2.2.2.2.1
    have s6 := (unhide P).1.2.2.2.2.2.2.1
    have s7 := (unhide P).1.2.2.2.2.2.2.2.1
    have v0 := (unhide P).2.1.1.1
    have v1 := (unhide P).2.1.1.2.1
    have v2 := (unhide P).2.1.1.2.2.1
    have v3 := (unhide P).2.1.1.2.2.2
    have u0 := (unhide P).2.2.1.1
    have u1 := (unhide P).2.2.1.2.1
    have u2 := (unhide P).2.2.1.2.2.1
    have u3 := (unhide P).2.2.1.2.2.2
    by_cases h1 : bl ≤ bh
    · have o1 : okB bl bh = true := decide_eq_true h1
      go_wp2_with fail
      refine (sIvOk_c _ _ _).mono ?_
      rintro e wo2 ⟨rfl, hb⟩
      have P := hide (And.intro (S8.call hb (unhide P).1) (And.intro (C4.call hb (unhide P).2.1) (C4.call hb (unhide P).2.2)))
      clear hb
      clear s0 s1 s2 s3 s4 s5 s6 s7 v0 v1 v2 v3 u0 u1 u2 u3
      have s0 := (unhide P).1.1
      have s1 := (unhide P).1.2.1
      have s2 := (unhide P).1.2.2.1
      have s3 := (unhide P).1.2.2.2.1
      have s4 := (unhide P).1.2.2.2.2.1
      have s5 := (unhide P).1.2.2.2.2.2.1
      have s6 := (unhide P).1.2.2.2.2.2.2.1
      have s7 := (unhide P).1.2.2.2.2.2.2.2.1
      have v0 := (unhide P).2.1.1.1
      have v1 := (unhide P).2.1.1.2.1
      have v2 := (unhide P).2.1.1.2.2.1
      have v3 := (unhide P).2.1.1.2.2.2
      have u0 := (unhide P).2.2.1.1
      have u1 := (unhide P).2.2.1.2.1
      have u2 := (unhide P).2.2.1.2.2.1
      have u3 := (unhide P).2.2.1.2.2.2
      by_cases h2 : cl ≤ ch
      · have o2 : okB cl ch = true := decide_eq_true h2
        go_wp2_with fail
        refine (sIvOk_c _ _ _).mono ?_
        rintro e wo3 ⟨rfl, hb⟩
        have P := hide (And.intro (S8.call hb (unhide P).1) (And.intro (C4.call hb (unhide P).2.1) (C4.call hb (unhide P).2.2)))
        clear hb
        clear s0 s1 s2 s3 s4 s5 s6 s7 v0 v1 v2 v3 u0 u1 u2 u3
        have s0 := (unhide P).1.1
        have s1 := (unhide P).1.2.1
        have s2 := (unhide P).1.2.2.1
        have s3 := (unhide P).1.2.2.2.1
        have s4 := (unhide P).1.2.2.2.2.1
        have s5 := (unhide P).1.2.2.2.2.2.1
        have s6 := (unhide P).1.2.2.2.2.2.2.1
        have s7 := (unhide P).1.2.2.2.2.2.2.2.1
        have v0 := (unhide P).2.1.1.1
        have v1 := (unhide P).2.1.1.2.1
        have v2 := (unhide P).2.1.1.2.2.1
        have v3 := (unhide P).2.1.1.2.2.2
        have u0 := (unhide P).2.2.1.1
        have u1 := (unhide P).2.2.1.2.1
        have u2 := (unhide P).2.2.1.2.2.1
        have u3 := (unhide P).2.2.1.2.2.2
        by_cases h3 : dl ≤ dh
        · have o3 : okB dl dh = true := decide_eq_true h3
          have HJ := hide (And.intro (join_in al ah cl ch ⟨h0, h2⟩ (unhide HI).1.1 (unhide HI).1.2.1 (unhide HI).2.1 (unhide HI).2.2.1) (join_in bl bh dl dh ⟨h1, h3⟩ (unhide HI).1.2.2.1 (unhide HI).1.2.2.2 (unhide HI).2.2.2.1 (unhide HI).2.2.2.2))
          obtain ⟨X, hX⟩ : ∃ X, X = opV k (joinL al ah cl ch) (joinH al ah cl ch) bl bh := ⟨_, rfl⟩
          obtain ⟨U, hU⟩ : ∃ U, U = opV k al ah (joinL bl bh dl dh) (joinH bl bh dl dh) := ⟨_, rfl⟩
          have HX := hide hX
          have HU := hide hU
          have F := hide (And.intro (more_law k al ah bl bh (joinL al ah cl ch) (joinH al ah cl ch) bl bh k0 k4 ⟨h0, h1⟩ (unhide HJ).1.2.2 ⟨Int.le_refl _, Int.le_refl _⟩) (more_law k al ah bl bh al ah (joinL bl bh dl dh) (joinH bl bh dl dh) k0 k4 ⟨h0, h1⟩ ⟨Int.le_refl _, Int.le_refl _⟩ (unhide HJ).2.2.2))
          rw [← hX, ← hU, ← unhide HV] at F
          clear hX hU h0 h1 h2 h3
          clear s0 s1 s2 s3 s4 s5 s6 s7 v0 v1 v2 v3 u0 u1 u2 u3
          go_upto_region 9 with fail
          clear o0 o1 o2 o3
          obtain ⟨WA, rfl⟩ : ∃ WA : World, WA = wo3 := ⟨_, rfl⟩
          go_cut [12] (fun p wc => ∃ D, p = .pointer (some ⟨D, 0, none⟩) ∧ C4 D X.lo X.hi X.live X.al wc ∧ C4 C V.lo V.hi V.live V.al wc ∧ S8 w' w'.heap.size A E al ah bl bh cl ch dl dh wc)
          case first =>
            have hk0 := hide (S8.drew (unhide P).1)
            have hv0 := hide (show C4 C V.lo V.hi V.live V.al WA.drew from (unhide P).2.1)
            clear P
            obtain ⟨wz0, hw0⟩ : ∃ x, x = WA.drew := ⟨_, rfl⟩
            rw [← hw0] at hk0 hv0
            refine wp_region_held_drew (S := S8 w' w'.heap.size A E al ah bl bh cl ch dl dh) (by kernel_rfl) (by rw [← hw0]; exact unhide hk0) (fun hHeld => ?_)
            rw [← hw0] at hHeld ⊢
            clear hw0
            refine wpAnyH_take (i := 0) (oi := { dst := some 69, op := Op.move (Operand.tmp 9), type := 2, pos := _, after := _, guard := none }) (v := ?_) rfl (by kernel_rfl) (by kernel_rfl) (by kernel_rfl) (fun _ _ _ h => h) (Or.inl ⟨by rfl, ?_⟩) (by assumption) ?_
            rotate_left
            · (intro w hSw; (try dsimp only at hSw); go_simp; try with_reducible rfl)
            try simp only [Act.put, List.setIfInBounds_toArray, List.set_cons_zero, List.set_cons_succ]
            refine wpAnyH_take (i := 1) (oi := { dst := some 70, op := Op.load 25 (Operand.tmp 5), type := 25, pos := _, after := _, guard := none }) (v := ?_) rfl (by kernel_rfl) (by kernel_rfl) (by kernel_rfl) (fun _ _ _ h => h) (Or.inl ⟨by rfl, ?_⟩) (by assumption) ?_
            rotate_left
            · (intro w hSw; (try dsimp only at hSw); go_simp; try with_reducible rfl)
            try simp only [Act.put, List.setIfInBounds_toArray, List.set_cons_zero, List.set_cons_succ]
            refine wpAnyH_take (i := 2) (oi := { dst := some 71, op := Op.load 25 (Operand.tmp 7), type := 25, pos := _, after := _, guard := none }) (v := ?_) rfl (by kernel_rfl) (by kernel_rfl) (by kernel_rfl) (fun _ _ _ h => h) (Or.inl ⟨by rfl, ?_⟩) (by assumption) ?_
            rotate_left
            · (intro w hSw; (try dsimp only at hSw); go_simp; try with_reducible rfl)
            try simp only [Act.put, List.setIfInBounds_toArray, List.set_cons_zero, List.set_cons_succ]
            refine wpAnyH_take (i := 4) (oi := { dst := some 73, op := Op.load 25 (Operand.tmp 6), type := 25, pos := _, after := _, guard := none }) (v := ?_) rfl (by kernel_rfl) (by kernel_rfl) (by kernel_rfl) (fun _ _ _ h => h) (Or.inl ⟨by rfl, ?_⟩) (by assumption) ?_
            rotate_left
            · (intro w hSw; (try dsimp only at hSw); go_simp; try with_reducible rfl)
            try simp only [Act.put, List.setIfInBounds_toArray, List.set_cons_zero, List.set_cons_succ]
            refine wpAnyH_ready (rs := [3, 9, 10]) (by kernel_rfl) (by simp) ?_
            refine AllReadyH.cons (i := 3) (o := { dst := some 72, op := Op.call { callee := Callee.value (Operand.func 17), args := #[Operand.tmp 70, Operand.tmp 71], argTypes := #[25, 25] }, type := 25, pos := _, after := _, guard := none }) rfl (fun K hK => ?_) (AllReadyH.cons (i := 9) (o := { dst := some 12, op := Op.alloc 30, type := 0, pos := _, after := _, guard := none }) rfl (fun K hK => ?_) (AllReadyH.cons (i := 10) (o := { dst := some 13, op := Op.alloc 30, type := 0, pos := _, after := _, guard := none }) rfl (fun K hK => ?_) AllReadyH.nil))
            · go_simp
              refine (sIvJoin_c _ _ _ _ _).mono ?_
              rintro e wz1 ⟨rfl, hb1⟩
              have hk1 := hide (S8.call hb1 (unhide hk0))
              have hv1 := hide (C4.call hb1 (unhide hv0))
              clear hb1 hv0
              refine hK.out _ _ (unhide hk1) (fun hHeld => ?_)
              clear hK K
              try simp only [Act.put, List.setIfInBounds_toArray, List.set_cons_zero, List.set_cons_succ]
              refine wpAnyH_ready (rs := [5, 9, 10]) (by kernel_rfl) (by simp) ?_
              refine AllReadyH.cons (i := 5) (o := { dst := some 74, op := Op.call { callee := Callee.value (Operand.func 10), args := #[Operand.tmp 69, Operand.tmp 72, Operand.tmp 73], argTypes := #[2, 25, 25] }, type := 31, pos := _, after := _, guard := none }) rfl (fun K hK => ?_) (AllReadyH.cons (i := 9) (o := { dst := some 12, op := Op.alloc 30, type := 0, pos := _, after := _, guard := none }) rfl (fun K hK => ?_) (AllReadyH.cons (i := 10) (o := { dst := some 13, op := Op.alloc 30, type := 0, pos := _, after := _, guard := none }) rfl (fun K hK => ?_) AllReadyH.nil))
              · go_simp
                refine (op_any k (joinL al ah cl ch) (joinH al ah cl ch) bl bh k0 k4 (unhide HJ).1.1 (unhide HJ).1.2.1 (unhide HI).1.2.2.1 (unhide HI).1.2.2.2 _).mono ?_
                rintro e wz2 ⟨rfl, hb2⟩
                rw [← unhide HX]
                have hk2 := hide (S8.call hb2 (unhide hk1))
                have hv2 := hide (C4.call hb2 (unhide hv1))
                clear hb2 hv1
                refine hK.out _ _ (unhide hk2) (fun hHeld => ?_)
                clear hK K
                try simp only [Act.put, List.setIfInBounds_toArray, List.set_cons_zero, List.set_cons_succ]
                refine wpAnyH_take (i := 6) (oi := { dst := some 68, op := Op.move (Operand.tmp 74), type := 31, pos := _, after := _, guard := none }) (v := ?_) rfl (by kernel_rfl) (by kernel_rfl) (by kernel_rfl) (fun _ _ _ h => h) (Or.inl ⟨by rfl, ?_⟩) (by assumption) ?_
                rotate_left
                · (intro w hSw; (try dsimp only at hSw); go_simp; try with_reducible rfl)
                try simp only [Act.put, List.setIfInBounds_toArray, List.set_cons_zero, List.set_cons_succ]
                refine wpAnyH_take (i := 7) (oi := { dst := some 75, op := Op.extract (Operand.tmp 68) 0, type := 30, pos := _, after := _, guard := none }) (v := ?_) rfl (by kernel_rfl) (by kernel_rfl) (by kernel_rfl) (fun _ _ _ h => h) (Or.inl ⟨by rfl, ?_⟩) (by assumption) ?_
                rotate_left
                · (intro w hSw; (try dsimp only at hSw); go_simp; try with_reducible rfl)
                try simp only [Act.put, List.setIfInBounds_toArray, List.set_cons_zero, List.set_cons_succ]
                refine wpAnyH_take (i := 8) (oi := { dst := some 76, op := Op.extract (Operand.tmp 68) 1, type := 30, pos := _, after := _, guard := none }) (v := ?_) rfl (by kernel_rfl) (by kernel_rfl) (by kernel_rfl) (fun _ _ _ h => h) (Or.inl ⟨by rfl, ?_⟩) (by assumption) ?_
                rotate_left
                · (intro w hSw; (try dsimp only at hSw); go_simp; try with_reducible rfl)
                try simp only [Act.put, List.setIfInBounds_toArray, List.set_cons_zero, List.set_cons_succ]
                refine wpAnyH_ready (rs := [9, 10]) (by kernel_rfl) (by simp) ?_
                refine AllReadyH.cons (i := 9) (o := { dst := some 12, op := Op.alloc 30, type := 0, pos := _, after := _, guard := none }) rfl (fun K hK => ?_) (AllReadyH.cons (i := 10) (o := { dst := some 13, op := Op.alloc 30, type := 0, pos := _, after := _, guard := none }) rfl (fun K hK => ?_) AllReadyH.nil)
                · have g9 := hide (FB.of (unhide hk2))
                  have f9_3 := hide (C4.new wz2 0 0 false 0 30)
                  have hk3 := hide (S8.alloc (unhide hk2) (Obj.cells #[.int .i64 0, .int .i64 0, .bool false, .int .i64 0] 30))
                  have hv3 := hide (C4.call ((Below.refl _ _).alloc (Nat.le_refl _) (Obj.cells #[.int .i64 0, .int .i64 0, .bool false, .int .i64 0] 30)) (unhide hv2))
                  have lhv_9 : C < wz2.heap.size := (unhide hv2).2.1
                  go_simp
                  refine hK.out _ _ (unhide hk3) (fun hHeld => ?_)
                  clear hK K
                  try simp only [Act.put, List.setIfInBounds_toArray, List.set_cons_zero, List.set_cons_succ]
                  clear hHeld
                  generalize hg : wz2.alloc (Obj.cells #[.int .i64 0, .int .i64 0, .bool false, .int .i64 0] 30) = wz3 at hk3 f9_3 hv3 ⊢
                  clear hg hk2 hv2
                  have hHeld := unhide hk3
                  obtain ⟨b9, hb9⟩ : ∃ b, b = wz2.heap.size := ⟨_, rfl⟩
                  rw [← hb9] at g9 f9_3 lhv_9 ⊢
                  clear hb9
                  refine wpAnyH_ready (rs := [10]) (by kernel_rfl) (by simp) ?_
                  refine AllReadyH.cons (i := 10) (o := { dst := some 13, op := Op.alloc 30, type := 0, pos := _, after := _, guard := none }) rfl (fun K hK => ?_) AllReadyH.nil
                  have g10 := hide (FB.of (unhide hk3))
                  have f10_4 := hide (C4.new wz3 0 0 false 0 30)
                  have hk4 := hide (S8.alloc (unhide hk3) (Obj.cells #[.int .i64 0, .int .i64 0, .bool false, .int .i64 0] 30))
                  have hv4 := hide (C4.call ((Below.refl _ _).alloc (Nat.le_refl _) (Obj.cells #[.int .i64 0, .int .i64 0, .bool false, .int .i64 0] 30)) (unhide hv3))
                  have f9_4 := hide (C4.call ((Below.refl _ _).alloc (Nat.le_refl _) (Obj.cells #[.int .i64 0, .int .i64 0, .bool false, .int .i64 0] 30)) (unhide f9_3))
                  have lhv_10 : C < wz3.heap.size := (unhide hv3).2.1
                  have l9_10 : b9 < wz3.heap.size := (unhide f9_3).2.1
                  go_simp
                  refine hK.out _ _ (unhide hk4) (fun hHeld => ?_)
                  clear hK K
                  try simp only [Act.put, List.setIfInBounds_toArray, List.set_cons_zero, List.set_cons_succ]
                  clear hHeld
                  generalize hg : wz3.alloc (Obj.cells #[.int .i64 0, .int .i64 0, .bool false, .int .i64 0] 30) = wz4 at hk4 f10_4 hv4 f9_4 ⊢
                  clear hg hk3 hv3 f9_3
                  have hHeld := unhide hk4
                  obtain ⟨b10, hb10⟩ : ∃ b, b = wz3.heap.size := ⟨_, rfl⟩
                  rw [← hb10] at g10 f10_4 lhv_10 l9_10 ⊢
                  clear hb10
                  refine wpAnyH_ready (rs := [11]) (by kernel_rfl) (by simp) ?_
                  refine AllReadyH.cons (i := 11) (o := { dst := none, op := Op.store 30 (Operand.tmp 12) (Operand.tmp 75), type := 0, pos := _, after := _, guard := none }) rfl (fun K hK => ?_) AllReadyH.nil
                  obtain ⟨⟨c0, c1, c2, c3⟩, c4, c5⟩ := unhide f9_4
                  go_simp
                  refine hK.out _ _ ?_ (fun hHeld => ?_)
                  · exact S8.put (unhide hk4) (unhide g9) _ _ _ _
                  clear hK K c0 c1 c2 c3 c4 c5 hHeld
                  try simp only [Act.put, List.setIfInBounds_toArray, List.set_cons_zero, List.set_cons_succ]
                  have hk5 := hide (S8.put (unhide hk4) (unhide g9) (.int .i64 X.lo) (.int .i64 X.hi) (.bool X.live) (.int .i64 X.al))
                  have f9_5 := hide (C4.put (x' := X.lo) (y' := X.hi) (l' := X.live) (u' := X.al) (unhide f9_4))
                  have f10_5 := hide (C4.far (c := b9) (unhide f10_4) (by omega) (.int .i64 X.lo) (.int .i64 X.hi) (.bool X.live) (.int .i64 X.al))
                  have hv5 := hide (C4.far (c := b9) (unhide hv4) (by omega) (.int .i64 X.lo) (.int .i64 X.hi) (.bool X.live) (.int .i64 X.al))
                  obtain ⟨wz5, hw⟩ : ∃ x, x = (((wz4.setCell ⟨b9, 0, none⟩ (.int .i64 X.lo)).setCell ⟨b9, 1, none⟩ (.int .i64 X.hi)).setCell ⟨b9, 2, none⟩ (.bool X.live)).setCell ⟨b9, 3, none⟩ (.int .i64 X.al) := ⟨_, rfl⟩
                  rw [← hw] at hk5 f9_5 f10_5 hv5 ⊢
                  clear hw
                  have hHeld := unhide hk5
                  refine wpAnyH_ready (rs := [12]) (by kernel_rfl) (by simp) ?_
                  refine AllReadyH.cons (i := 12) (o := { dst := none, op := Op.store 30 (Operand.tmp 13) (Operand.tmp 76), type := 0, pos := _, after := _, guard := none }) rfl (fun K hK => ?_) AllReadyH.nil
                  obtain ⟨⟨c0, c1, c2, c3⟩, c4, c5⟩ := unhide f10_5
                  go_simp
                  refine hK.out _ _ ?_ (fun hHeld => ?_)
                  · exact S8.put (unhide hk5) (unhide g10) _ _ _ _
                  clear hK K c0 c1 c2 c3 c4 c5 hHeld
                  try simp only [Act.put, List.setIfInBounds_toArray, List.set_cons_zero, List.set_cons_succ]
                  have hk6 := hide (S8.put (unhide hk5) (unhide g10) (.int .i64 X.lo) (.int .i64 X.hi) (.bool X.live) (.int .i64 X.al))
                  have f10_6 := hide (C4.put (x' := X.lo) (y' := X.hi) (l' := X.live) (u' := X.al) (unhide f10_5))
                  have f9_6 := hide (C4.far (c := b10) (unhide f9_5) (by omega) (.int .i64 X.lo) (.int .i64 X.hi) (.bool X.live) (.int .i64 X.al))
                  have hv6 := hide (C4.far (c := b10) (unhide hv5) (by omega) (.int .i64 X.lo) (.int .i64 X.hi) (.bool X.live) (.int .i64 X.al))
                  obtain ⟨wz6, hw⟩ : ∃ x, x = (((wz5.setCell ⟨b10, 0, none⟩ (.int .i64 X.lo)).setCell ⟨b10, 1, none⟩ (.int .i64 X.hi)).setCell ⟨b10, 2, none⟩ (.bool X.live)).setCell ⟨b10, 3, none⟩ (.int .i64 X.al) := ⟨_, rfl⟩
                  rw [← hw] at hk6 f9_6 f10_6 hv6 ⊢
                  clear hw
                  have hHeld := unhide hk6
                  refine wpAnyH_done (by kernel_rfl) ?_ _
                  go_wp2_with fail
                  go_meet
                  exact ⟨b9, rfl, unhide f9_6, unhide hv6, unhide hk6⟩
                · have g10 := hide (FB.of (unhide hk2))
                  have f10_3 := hide (C4.new wz2 0 0 false 0 30)
                  have hk3 := hide (S8.alloc (unhide hk2) (Obj.cells #[.int .i64 0, .int .i64 0, .bool false, .int .i64 0] 30))
                  have hv3 := hide (C4.call ((Below.refl _ _).alloc (Nat.le_refl _) (Obj.cells #[.int .i64 0, .int .i64 0, .bool false, .int .i64 0] 30)) (unhide hv2))
                  have lhv_10 : C < wz2.heap.size := (unhide hv2).2.1
                  go_simp
                  refine hK.out _ _ (unhide hk3) (fun hHeld => ?_)
                  clear hK K
                  try simp only [Act.put, List.setIfInBounds_toArray, List.set_cons_zero, List.set_cons_succ]
                  clear hHeld
                  generalize hg : wz2.alloc (Obj.cells #[.int .i64 0, .int .i64 0, .bool false, .int .i64 0] 30) = wz3 at hk3 f10_3 hv3 ⊢
                  clear hg hk2 hv2
                  have hHeld := unhide hk3
                  obtain ⟨b10, hb10⟩ : ∃ b, b = wz2.heap.size := ⟨_, rfl⟩
                  rw [← hb10] at g10 f10_3 lhv_10 ⊢
                  clear hb10
                  refine wpAnyH_ready (rs := [9]) (by kernel_rfl) (by simp) ?_
                  refine AllReadyH.cons (i := 9) (o := { dst := some 12, op := Op.alloc 30, type := 0, pos := _, after := _, guard := none }) rfl (fun K hK => ?_) AllReadyH.nil
                  have g9 := hide (FB.of (unhide hk3))
                  have f9_4 := hide (C4.new wz3 0 0 false 0 30)
                  have hk4 := hide (S8.alloc (unhide hk3) (Obj.cells #[.int .i64 0, .int .i64 0, .bool false, .int .i64 0] 30))
                  have hv4 := hide (C4.call ((Below.refl _ _).alloc (Nat.le_refl _) (Obj.cells #[.int .i64 0, .int .i64 0, .bool false, .int .i64 0] 30)) (unhide hv3))
                  have f10_4 := hide (C4.call ((Below.refl _ _).alloc (Nat.le_refl _) (Obj.cells #[.int .i64 0, .int .i64 0, .bool false, .int .i64 0] 30)) (unhide f10_3))
                  have lhv_9 : C < wz3.heap.size := (unhide hv3).2.1
                  have l10_9 : b10 < wz3.heap.size := (unhide f10_3).2.1
                  go_simp
                  refine hK.out _ _ (unhide hk4) (fun hHeld => ?_)
                  clear hK K
                  try simp only [Act.put, List.setIfInBounds_toArray, List.set_cons_zero, List.set_cons_succ]
                  clear hHeld
                  generalize hg : wz3.alloc (Obj.cells #[.int .i64 0, .int .i64 0, .bool false, .int .i64 0] 30) = wz4 at hk4 f9_4 hv4 f10_4 ⊢
                  clear hg hk3 hv3 f10_3
                  have hHeld := unhide hk4
                  obtain ⟨b9, hb9⟩ : ∃ b, b = wz3.heap.size := ⟨_, rfl⟩
                  rw [← hb9] at g9 f9_4 lhv_9 l10_9 ⊢
                  clear hb9
                  refine wpAnyH_ready (rs := [11]) (by kernel_rfl) (by simp) ?_
                  refine AllReadyH.cons (i := 11) (o := { dst := none, op := Op.store 30 (Operand.tmp 12) (Operand.tmp 75), type := 0, pos := _, after := _, guard := none }) rfl (fun K hK => ?_) AllReadyH.nil
                  obtain ⟨⟨c0, c1, c2, c3⟩, c4, c5⟩ := unhide f9_4
                  go_simp
                  refine hK.out _ _ ?_ (fun hHeld => ?_)
                  · exact S8.put (unhide hk4) (unhide g9) _ _ _ _
                  clear hK K c0 c1 c2 c3 c4 c5 hHeld
                  try simp only [Act.put, List.setIfInBounds_toArray, List.set_cons_zero, List.set_cons_succ]
                  have hk5 := hide (S8.put (unhide hk4) (unhide g9) (.int .i64 X.lo) (.int .i64 X.hi) (.bool X.live) (.int .i64 X.al))
                  have f9_5 := hide (C4.put (x' := X.lo) (y' := X.hi) (l' := X.live) (u' := X.al) (unhide f9_4))
                  have f10_5 := hide (C4.far (c := b9) (unhide f10_4) (by omega) (.int .i64 X.lo) (.int .i64 X.hi) (.bool X.live) (.int .i64 X.al))
                  have hv5 := hide (C4.far (c := b9) (unhide hv4) (by omega) (.int .i64 X.lo) (.int .i64 X.hi) (.bool X.live) (.int .i64 X.al))
                  obtain ⟨wz5, hw⟩ : ∃ x, x = (((wz4.setCell ⟨b9, 0, none⟩ (.int .i64 X.lo)).setCell ⟨b9, 1, none⟩ (.int .i64 X.hi)).setCell ⟨b9, 2, none⟩ (.bool X.live)).setCell ⟨b9, 3, none⟩ (.int .i64 X.al) := ⟨_, rfl⟩
                  rw [← hw] at hk5 f9_5 f10_5 hv5 ⊢
                  clear hw
                  have hHeld := unhide hk5
                  refine wpAnyH_ready (rs := [12]) (by kernel_rfl) (by simp) ?_
                  refine AllReadyH.cons (i := 12) (o := { dst := none, op := Op.store 30 (Operand.tmp 13) (Operand.tmp 76), type := 0, pos := _, after := _, guard := none }) rfl (fun K hK => ?_) AllReadyH.nil
                  obtain ⟨⟨c0, c1, c2, c3⟩, c4, c5⟩ := unhide f10_5
                  go_simp
                  refine hK.out _ _ ?_ (fun hHeld => ?_)
                  · exact S8.put (unhide hk5) (unhide g10) _ _ _ _
                  clear hK K c0 c1 c2 c3 c4 c5 hHeld
                  try simp only [Act.put, List.setIfInBounds_toArray, List.set_cons_zero, List.set_cons_succ]
                  have hk6 := hide (S8.put (unhide hk5) (unhide g10) (.int .i64 X.lo) (.int .i64 X.hi) (.bool X.live) (.int .i64 X.al))
                  have f10_6 := hide (C4.put (x' := X.lo) (y' := X.hi) (l' := X.live) (u' := X.al) (unhide f10_5))
                  have f9_6 := hide (C4.far (c := b10) (unhide f9_5) (by omega) (.int .i64 X.lo) (.int .i64 X.hi) (.bool X.live) (.int .i64 X.al))
                  have hv6 := hide (C4.far (c := b10) (unhide hv5) (by omega) (.int .i64 X.lo) (.int .i64 X.hi) (.bool X.live) (.int .i64 X.al))
                  obtain ⟨wz6, hw⟩ : ∃ x, x = (((wz5.setCell ⟨b10, 0, none⟩ (.int .i64 X.lo)).setCell ⟨b10, 1, none⟩ (.int .i64 X.hi)).setCell ⟨b10, 2, none⟩ (.bool X.live)).setCell ⟨b10, 3, none⟩ (.int .i64 X.al) := ⟨_, rfl⟩
                  rw [← hw] at hk6 f9_6 f10_6 hv6 ⊢
                  clear hw
                  have hHeld := unhide hk6
                  refine wpAnyH_done (by kernel_rfl) ?_ _
                  go_wp2_with fail
                  go_meet
                  exact ⟨b9, rfl, unhide f9_6, unhide hv6, unhide hk6⟩
              · have g9 := hide (FB.of (unhide hk1))
                have f9_2 := hide (C4.new wz1 0 0 false 0 30)
                have hk2 := hide (S8.alloc (unhide hk1) (Obj.cells #[.int .i64 0, .int .i64 0, .bool false, .int .i64 0] 30))
                have hv2 := hide (C4.call ((Below.refl _ _).alloc (Nat.le_refl _) (Obj.cells #[.int .i64 0, .int .i64 0, .bool false, .int .i64 0] 30)) (unhide hv1))
                have lhv_9 : C < wz1.heap.size := (unhide hv1).2.1
                go_simp
                refine hK.out _ _ (unhide hk2) (fun hHeld => ?_)
                clear hK K
                try simp only [Act.put, List.setIfInBounds_toArray, List.set_cons_zero, List.set_cons_succ]
                clear hHeld
                generalize hg : wz1.alloc (Obj.cells #[.int .i64 0, .int .i64 0, .bool false, .int .i64 0] 30) = wz2 at hk2 f9_2 hv2 ⊢
                clear hg hk1 hv1
                have hHeld := unhide hk2
                obtain ⟨b9, hb9⟩ : ∃ b, b = wz1.heap.size := ⟨_, rfl⟩
                rw [← hb9] at g9 f9_2 lhv_9 ⊢
                clear hb9
                refine wpAnyH_ready (rs := [5, 10]) (by kernel_rfl) (by simp) ?_
                refine AllReadyH.cons (i := 5) (o := { dst := some 74, op := Op.call { callee := Callee.value (Operand.func 10), args := #[Operand.tmp 69, Operand.tmp 72, Operand.tmp 73], argTypes := #[2, 25, 25] }, type := 31, pos := _, after := _, guard := none }) rfl (fun K hK => ?_) (AllReadyH.cons (i := 10) (o := { dst := some 13, op := Op.alloc 30, type := 0, pos := _, after := _, guard := none }) rfl (fun K hK => ?_) AllReadyH.nil)
                · go_simp
                  refine (op_any k (joinL al ah cl ch) (joinH al ah cl ch) bl bh k0 k4 (unhide HJ).1.1 (unhide HJ).1.2.1 (unhide HI).1.2.2.1 (unhide HI).1.2.2.2 _).mono ?_
                  rintro e wz3 ⟨rfl, hb3⟩
                  rw [← unhide HX]
                  have hk3 := hide (S8.call hb3 (unhide hk2))
                  have hv3 := hide (C4.call hb3 (unhide hv2))
                  have f9_3 := hide (C4.call hb3 (unhide f9_2))
                  clear hb3 hv2 f9_2
                  refine hK.out _ _ (unhide hk3) (fun hHeld => ?_)
                  clear hK K
                  try simp only [Act.put, List.setIfInBounds_toArray, List.set_cons_zero, List.set_cons_succ]
                  refine wpAnyH_take (i := 6) (oi := { dst := some 68, op := Op.move (Operand.tmp 74), type := 31, pos := _, after := _, guard := none }) (v := ?_) rfl (by kernel_rfl) (by kernel_rfl) (by kernel_rfl) (fun _ _ _ h => h) (Or.inl ⟨by rfl, ?_⟩) (by assumption) ?_
                  rotate_left
                  · (intro w hSw; (try dsimp only at hSw); go_simp; try with_reducible rfl)
                  try simp only [Act.put, List.setIfInBounds_toArray, List.set_cons_zero, List.set_cons_succ]
                  refine wpAnyH_take (i := 7) (oi := { dst := some 75, op := Op.extract (Operand.tmp 68) 0, type := 30, pos := _, after := _, guard := none }) (v := ?_) rfl (by kernel_rfl) (by kernel_rfl) (by kernel_rfl) (fun _ _ _ h => h) (Or.inl ⟨by rfl, ?_⟩) (by assumption) ?_
                  rotate_left
                  · (intro w hSw; (try dsimp only at hSw); go_simp; try with_reducible rfl)
                  try simp only [Act.put, List.setIfInBounds_toArray, List.set_cons_zero, List.set_cons_succ]
                  refine wpAnyH_take (i := 8) (oi := { dst := some 76, op := Op.extract (Operand.tmp 68) 1, type := 30, pos := _, after := _, guard := none }) (v := ?_) rfl (by kernel_rfl) (by kernel_rfl) (by kernel_rfl) (fun _ _ _ h => h) (Or.inl ⟨by rfl, ?_⟩) (by assumption) ?_
                  rotate_left
                  · (intro w hSw; (try dsimp only at hSw); go_simp; try with_reducible rfl)
                  try simp only [Act.put, List.setIfInBounds_toArray, List.set_cons_zero, List.set_cons_succ]
                  refine wpAnyH_ready (rs := [10]) (by kernel_rfl) (by simp) ?_
                  refine AllReadyH.cons (i := 10) (o := { dst := some 13, op := Op.alloc 30, type := 0, pos := _, after := _, guard := none }) rfl (fun K hK => ?_) AllReadyH.nil
                  have g10 := hide (FB.of (unhide hk3))
                  have f10_4 := hide (C4.new wz3 0 0 false 0 30)
                  have hk4 := hide (S8.alloc (unhide hk3) (Obj.cells #[.int .i64 0, .int .i64 0, .bool false, .int .i64 0] 30))
                  have hv4 := hide (C4.call ((Below.refl _ _).alloc (Nat.le_refl _) (Obj.cells #[.int .i64 0, .int .i64 0, .bool false, .int .i64 0] 30)) (unhide hv3))
                  have f9_4 := hide (C4.call ((Below.refl _ _).alloc (Nat.le_refl _) (Obj.cells #[.int .i64 0, .int .i64 0, .bool false, .int .i64 0] 30)) (unhide f9_3))
                  have lhv_10 : C < wz3.heap.size := (unhide hv3).2.1
                  have l9_10 : b9 < wz3.heap.size := (unhide f9_3).2.1
                  go_simp
                  refine hK.out _ _ (unhide hk4) (fun hHeld => ?_)
                  clear hK K
                  try simp only [Act.put, List.setIfInBounds_toArray, List.set_cons_zero, List.set_cons_succ]
                  clear hHeld
                  generalize hg : wz3.alloc (Obj.cells #[.int .i64 0, .int .i64 0, .bool false, .int .i64 0] 30) = wz4 at hk4 f10_4 hv4 f9_4 ⊢
                  clear hg hk3 hv3 f9_3
                  have hHeld := unhide hk4
                  obtain ⟨b10, hb10⟩ : ∃ b, b = wz3.heap.size := ⟨_, rfl⟩
                  rw [← hb10] at g10 f10_4 lhv_10 l9_10 ⊢
                  clear hb10
                  refine wpAnyH_ready (rs := [11]) (by kernel_rfl) (by simp) ?_
                  refine AllReadyH.cons (i := 11) (o := { dst := none, op := Op.store 30 (Operand.tmp 12) (Operand.tmp 75), type := 0, pos := _, after := _, guard := none }) rfl (fun K hK => ?_) AllReadyH.nil
                  obtain ⟨⟨c0, c1, c2, c3⟩, c4, c5⟩ := unhide f9_4
                  go_simp
                  refine hK.out _ _ ?_ (fun hHeld => ?_)
                  · exact S8.put (unhide hk4) (unhide g9) _ _ _ _
                  clear hK K c0 c1 c2 c3 c4 c5 hHeld
                  try simp only [Act.put, List.setIfInBounds_toArray, List.set_cons_zero, List.set_cons_succ]
                  have hk5 := hide (S8.put (unhide hk4) (unhide g9) (.int .i64 X.lo) (.int .i64 X.hi) (.bool X.live) (.int .i64 X.al))
                  have f9_5 := hide (C4.put (x' := X.lo) (y' := X.hi) (l' := X.live) (u' := X.al) (unhide f9_4))
                  have f10_5 := hide (C4.far (c := b9) (unhide f10_4) (by omega) (.int .i64 X.lo) (.int .i64 X.hi) (.bool X.live) (.int .i64 X.al))
                  have hv5 := hide (C4.far (c := b9) (unhide hv4) (by omega) (.int .i64 X.lo) (.int .i64 X.hi) (.bool X.live) (.int .i64 X.al))
                  obtain ⟨wz5, hw⟩ : ∃ x, x = (((wz4.setCell ⟨b9, 0, none⟩ (.int .i64 X.lo)).setCell ⟨b9, 1, none⟩ (.int .i64 X.hi)).setCell ⟨b9, 2, none⟩ (.bool X.live)).setCell ⟨b9, 3, none⟩ (.int .i64 X.al) := ⟨_, rfl⟩
                  rw [← hw] at hk5 f9_5 f10_5 hv5 ⊢
                  clear hw
                  have hHeld := unhide hk5
                  refine wpAnyH_ready (rs := [12]) (by kernel_rfl) (by simp) ?_
                  refine AllReadyH.cons (i := 12) (o := { dst := none, op := Op.store 30 (Operand.tmp 13) (Operand.tmp 76), type := 0, pos := _, after := _, guard := none }) rfl (fun K hK => ?_) AllReadyH.nil
                  obtain ⟨⟨c0, c1, c2, c3⟩, c4, c5⟩ := unhide f10_5
                  go_simp
                  refine hK.out _ _ ?_ (fun hHeld => ?_)
                  · exact S8.put (unhide hk5) (unhide g10) _ _ _ _
                  clear hK K c0 c1 c2 c3 c4 c5 hHeld
                  try simp only [Act.put, List.setIfInBounds_toArray, List.set_cons_zero, List.set_cons_succ]
                  have hk6 := hide (S8.put (unhide hk5) (unhide g10) (.int .i64 X.lo) (.int .i64 X.hi) (.bool X.live) (.int .i64 X.al))
                  have f10_6 := hide (C4.put (x' := X.lo) (y' := X.hi) (l' := X.live) (u' := X.al) (unhide f10_5))
                  have f9_6 := hide (C4.far (c := b10) (unhide f9_5) (by omega) (.int .i64 X.lo) (.int .i64 X.hi) (.bool X.live) (.int .i64 X.al))
                  have hv6 := hide (C4.far (c := b10) (unhide hv5) (by omega) (.int .i64 X.lo) (.int .i64 X.hi) (.bool X.live) (.int .i64 X.al))
                  obtain ⟨wz6, hw⟩ : ∃ x, x = (((wz5.setCell ⟨b10, 0, none⟩ (.int .i64 X.lo)).setCell ⟨b10, 1, none⟩ (.int .i64 X.hi)).setCell ⟨b10, 2, none⟩ (.bool X.live)).setCell ⟨b10, 3, none⟩ (.int .i64 X.al) := ⟨_, rfl⟩
                  rw [← hw] at hk6 f9_6 f10_6 hv6 ⊢
                  clear hw
                  have hHeld := unhide hk6
                  refine wpAnyH_done (by kernel_rfl) ?_ _
                  go_wp2_with fail
                  go_meet
                  exact ⟨b9, rfl, unhide f9_6, unhide hv6, unhide hk6⟩
                · have g10 := hide (FB.of (unhide hk2))
                  have f10_3 := hide (C4.new wz2 0 0 false 0 30)
                  have hk3 := hide (S8.alloc (unhide hk2) (Obj.cells #[.int .i64 0, .int .i64 0, .bool false, .int .i64 0] 30))
                  have hv3 := hide (C4.call ((Below.refl _ _).alloc (Nat.le_refl _) (Obj.cells #[.int .i64 0, .int .i64 0, .bool false, .int .i64 0] 30)) (unhide hv2))
                  have f9_3 := hide (C4.call ((Below.refl _ _).alloc (Nat.le_refl _) (Obj.cells #[.int .i64 0, .int .i64 0, .bool false, .int .i64 0] 30)) (unhide f9_2))
                  have lhv_10 : C < wz2.heap.size := (unhide hv2).2.1
                  have l9_10 : b9 < wz2.heap.size := (unhide f9_2).2.1
                  go_simp
                  refine hK.out _ _ (unhide hk3) (fun hHeld => ?_)
                  clear hK K
                  try simp only [Act.put, List.setIfInBounds_toArray, List.set_cons_zero, List.set_cons_succ]
                  clear hHeld
                  generalize hg : wz2.alloc (Obj.cells #[.int .i64 0, .int .i64 0, .bool false, .int .i64 0] 30) = wz3 at hk3 f10_3 hv3 f9_3 ⊢
                  clear hg hk2 hv2 f9_2
                  have hHeld := unhide hk3
                  obtain ⟨b10, hb10⟩ : ∃ b, b = wz2.heap.size := ⟨_, rfl⟩
                  rw [← hb10] at g10 f10_3 lhv_10 l9_10 ⊢
                  clear hb10
                  refine wpAnyH_ready (rs := [5]) (by kernel_rfl) (by simp) ?_
                  refine AllReadyH.cons (i := 5) (o := { dst := some 74, op := Op.call { callee := Callee.value (Operand.func 10), args := #[Operand.tmp 69, Operand.tmp 72, Operand.tmp 73], argTypes := #[2, 25, 25] }, type := 31, pos := _, after := _, guard := none }) rfl (fun K hK => ?_) AllReadyH.nil
                  go_simp
                  refine (op_any k (joinL al ah cl ch) (joinH al ah cl ch) bl bh k0 k4 (unhide HJ).1.1 (unhide HJ).1.2.1 (unhide HI).1.2.2.1 (unhide HI).1.2.2.2 _).mono ?_
                  rintro e wz4 ⟨rfl, hb4⟩
                  rw [← unhide HX]
                  have hk4 := hide (S8.call hb4 (unhide hk3))
                  have hv4 := hide (C4.call hb4 (unhide hv3))
                  have f9_4 := hide (C4.call hb4 (unhide f9_3))
                  have f10_4 := hide (C4.call hb4 (unhide f10_3))
                  clear hb4 hv3 f9_3 f10_3
                  refine hK.out _ _ (unhide hk4) (fun hHeld => ?_)
                  clear hK K
                  try simp only [Act.put, List.setIfInBounds_toArray, List.set_cons_zero, List.set_cons_succ]
                  refine wpAnyH_take (i := 6) (oi := { dst := some 68, op := Op.move (Operand.tmp 74), type := 31, pos := _, after := _, guard := none }) (v := ?_) rfl (by kernel_rfl) (by kernel_rfl) (by kernel_rfl) (fun _ _ _ h => h) (Or.inl ⟨by rfl, ?_⟩) (by assumption) ?_
                  rotate_left
                  · (intro w hSw; (try dsimp only at hSw); go_simp; try with_reducible rfl)
                  try simp only [Act.put, List.setIfInBounds_toArray, List.set_cons_zero, List.set_cons_succ]
                  refine wpAnyH_take (i := 7) (oi := { dst := some 75, op := Op.extract (Operand.tmp 68) 0, type := 30, pos := _, after := _, guard := none }) (v := ?_) rfl (by kernel_rfl) (by kernel_rfl) (by kernel_rfl) (fun _ _ _ h => h) (Or.inl ⟨by rfl, ?_⟩) (by assumption) ?_
                  rotate_left
                  · (intro w hSw; (try dsimp only at hSw); go_simp; try with_reducible rfl)
                  try simp only [Act.put, List.setIfInBounds_toArray, List.set_cons_zero, List.set_cons_succ]
                  refine wpAnyH_take (i := 8) (oi := { dst := some 76, op := Op.extract (Operand.tmp 68) 1, type := 30, pos := _, after := _, guard := none }) (v := ?_) rfl (by kernel_rfl) (by kernel_rfl) (by kernel_rfl) (fun _ _ _ h => h) (Or.inl ⟨by rfl, ?_⟩) (by assumption) ?_
                  rotate_left
                  · (intro w hSw; (try dsimp only at hSw); go_simp; try with_reducible rfl)
                  try simp only [Act.put, List.setIfInBounds_toArray, List.set_cons_zero, List.set_cons_succ]
                  refine wpAnyH_ready (rs := [11]) (by kernel_rfl) (by simp) ?_
                  refine AllReadyH.cons (i := 11) (o := { dst := none, op := Op.store 30 (Operand.tmp 12) (Operand.tmp 75), type := 0, pos := _, after := _, guard := none }) rfl (fun K hK => ?_) AllReadyH.nil
                  obtain ⟨⟨c0, c1, c2, c3⟩, c4, c5⟩ := unhide f9_4
                  go_simp
                  refine hK.out _ _ ?_ (fun hHeld => ?_)
                  · exact S8.put (unhide hk4) (unhide g9) _ _ _ _
                  clear hK K c0 c1 c2 c3 c4 c5 hHeld
                  try simp only [Act.put, List.setIfInBounds_toArray, List.set_cons_zero, List.set_cons_succ]
                  have hk5 := hide (S8.put (unhide hk4) (unhide g9) (.int .i64 X.lo) (.int .i64 X.hi) (.bool X.live) (.int .i64 X.al))
                  have f9_5 := hide (C4.put (x' := X.lo) (y' := X.hi) (l' := X.live) (u' := X.al) (unhide f9_4))
                  have f10_5 := hide (C4.far (c := b9) (unhide f10_4) (by omega) (.int .i64 X.lo) (.int .i64 X.hi) (.bool X.live) (.int .i64 X.al))
                  have hv5 := hide (C4.far (c := b9) (unhide hv4) (by omega) (.int .i64 X.lo) (.int .i64 X.hi) (.bool X.live) (.int .i64 X.al))
                  obtain ⟨wz5, hw⟩ : ∃ x, x = (((wz4.setCell ⟨b9, 0, none⟩ (.int .i64 X.lo)).setCell ⟨b9, 1, none⟩ (.int .i64 X.hi)).setCell ⟨b9, 2, none⟩ (.bool X.live)).setCell ⟨b9, 3, none⟩ (.int .i64 X.al) := ⟨_, rfl⟩
                  rw [← hw] at hk5 f9_5 f10_5 hv5 ⊢
                  clear hw
                  have hHeld := unhide hk5
                  refine wpAnyH_ready (rs := [12]) (by kernel_rfl) (by simp) ?_
                  refine AllReadyH.cons (i := 12) (o := { dst := none, op := Op.store 30 (Operand.tmp 13) (Operand.tmp 76), type := 0, pos := _, after := _, guard := none }) rfl (fun K hK => ?_) AllReadyH.nil
                  obtain ⟨⟨c0, c1, c2, c3⟩, c4, c5⟩ := unhide f10_5
                  go_simp
                  refine hK.out _ _ ?_ (fun hHeld => ?_)
                  · exact S8.put (unhide hk5) (unhide g10) _ _ _ _
                  clear hK K c0 c1 c2 c3 c4 c5 hHeld
                  try simp only [Act.put, List.setIfInBounds_toArray, List.set_cons_zero, List.set_cons_succ]
                  have hk6 := hide (S8.put (unhide hk5) (unhide g10) (.int .i64 X.lo) (.int .i64 X.hi) (.bool X.live) (.int .i64 X.al))
                  have f10_6 := hide (C4.put (x' := X.lo) (y' := X.hi) (l' := X.live) (u' := X.al) (unhide f10_5))
                  have f9_6 := hide (C4.far (c := b10) (unhide f9_5) (by omega) (.int .i64 X.lo) (.int .i64 X.hi) (.bool X.live) (.int .i64 X.al))
                  have hv6 := hide (C4.far (c := b10) (unhide hv5) (by omega) (.int .i64 X.lo) (.int .i64 X.hi) (.bool X.live) (.int .i64 X.al))
                  obtain ⟨wz6, hw⟩ : ∃ x, x = (((wz5.setCell ⟨b10, 0, none⟩ (.int .i64 X.lo)).setCell ⟨b10, 1, none⟩ (.int .i64 X.hi)).setCell ⟨b10, 2, none⟩ (.bool X.live)).setCell ⟨b10, 3, none⟩ (.int .i64 X.al) := ⟨_, rfl⟩
                  rw [← hw] at hk6 f9_6 f10_6 hv6 ⊢
                  clear hw
                  have hHeld := unhide hk6
                  refine wpAnyH_done (by kernel_rfl) ?_ _
                  go_wp2_with fail
                  go_meet
                  exact ⟨b9, rfl, unhide f9_6, unhide hv6, unhide hk6⟩
              · have g10 := hide (FB.of (unhide hk1))
                have f10_2 := hide (C4.new wz1 0 0 false 0 30)
                have hk2 := hide (S8.alloc (unhide hk1) (Obj.cells #[.int .i64 0, .int .i64 0, .bool false, .int .i64 0] 30))
                have hv2 := hide (C4.call ((Below.refl _ _).alloc (Nat.le_refl _) (Obj.cells #[.int .i64 0, .int .i64 0, .bool false, .int .i64 0] 30)) (unhide hv1))
                have lhv_10 : C < wz1.heap.size := (unhide hv1).2.1
                go_simp
                refine hK.out _ _ (unhide hk2) (fun hHeld => ?_)
                clear hK K
                try simp only [Act.put, List.setIfInBounds_toArray, List.set_cons_zero, List.set_cons_succ]
                clear hHeld
                generalize hg : wz1.alloc (Obj.cells #[.int .i64 0, .int .i64 0, .bool false, .int .i64 0] 30) = wz2 at hk2 f10_2 hv2 ⊢
                clear hg hk1 hv1
                have hHeld := unhide hk2
                obtain ⟨b10, hb10⟩ : ∃ b, b = wz1.heap.size := ⟨_, rfl⟩
                rw [← hb10] at g10 f10_2 lhv_10 ⊢
                clear hb10
                refine wpAnyH_ready (rs := [5, 9]) (by kernel_rfl) (by simp) ?_
                refine AllReadyH.cons (i := 5) (o := { dst := some 74, op := Op.call { callee := Callee.value (Operand.func 10), args := #[Operand.tmp 69, Operand.tmp 72, Operand.tmp 73], argTypes := #[2, 25, 25] }, type := 31, pos := _, after := _, guard := none }) rfl (fun K hK => ?_) (AllReadyH.cons (i := 9) (o := { dst := some 12, op := Op.alloc 30, type := 0, pos := _, after := _, guard := none }) rfl (fun K hK => ?_) AllReadyH.nil)
                · go_simp
                  refine (op_any k (joinL al ah cl ch) (joinH al ah cl ch) bl bh k0 k4 (unhide HJ).1.1 (unhide HJ).1.2.1 (unhide HI).1.2.2.1 (unhide HI).1.2.2.2 _).mono ?_
                  rintro e wz3 ⟨rfl, hb3⟩
                  rw [← unhide HX]
                  have hk3 := hide (S8.call hb3 (unhide hk2))
                  have hv3 := hide (C4.call hb3 (unhide hv2))
                  have f10_3 := hide (C4.call hb3 (unhide f10_2))
                  clear hb3 hv2 f10_2
                  refine hK.out _ _ (unhide hk3) (fun hHeld => ?_)
                  clear hK K
                  try simp only [Act.put, List.setIfInBounds_toArray, List.set_cons_zero, List.set_cons_succ]
                  refine wpAnyH_take (i := 6) (oi := { dst := some 68, op := Op.move (Operand.tmp 74), type := 31, pos := _, after := _, guard := none }) (v := ?_) rfl (by kernel_rfl) (by kernel_rfl) (by kernel_rfl) (fun _ _ _ h => h) (Or.inl ⟨by rfl, ?_⟩) (by assumption) ?_
                  rotate_left
                  · (intro w hSw; (try dsimp only at hSw); go_simp; try with_reducible rfl)
                  try simp only [Act.put, List.setIfInBounds_toArray, List.set_cons_zero, List.set_cons_succ]
                  refine wpAnyH_take (i := 7) (oi := { dst := some 75, op := Op.extract (Operand.tmp 68) 0, type := 30, pos := _, after := _, guard := none }) (v := ?_) rfl (by kernel_rfl) (by kernel_rfl) (by kernel_rfl) (fun _ _ _ h => h) (Or.inl ⟨by rfl, ?_⟩) (by assumption) ?_
                  rotate_left
                  · (intro w hSw; (try dsimp only at hSw); go_simp; try with_reducible rfl)
                  try simp only [Act.put, List.setIfInBounds_toArray, List.set_cons_zero, List.set_cons_succ]
                  refine wpAnyH_take (i := 8) (oi := { dst := some 76, op := Op.extract (Operand.tmp 68) 1, type := 30, pos := _, after := _, guard := none }) (v := ?_) rfl (by kernel_rfl) (by kernel_rfl) (by kernel_rfl) (fun _ _ _ h => h) (Or.inl ⟨by rfl, ?_⟩) (by assumption) ?_
                  rotate_left
                  · (intro w hSw; (try dsimp only at hSw); go_simp; try with_reducible rfl)
                  try simp only [Act.put, List.setIfInBounds_toArray, List.set_cons_zero, List.set_cons_succ]
                  refine wpAnyH_ready (rs := [9]) (by kernel_rfl) (by simp) ?_
                  refine AllReadyH.cons (i := 9) (o := { dst := some 12, op := Op.alloc 30, type := 0, pos := _, after := _, guard := none }) rfl (fun K hK => ?_) AllReadyH.nil
                  have g9 := hide (FB.of (unhide hk3))
                  have f9_4 := hide (C4.new wz3 0 0 false 0 30)
                  have hk4 := hide (S8.alloc (unhide hk3) (Obj.cells #[.int .i64 0, .int .i64 0, .bool false, .int .i64 0] 30))
                  have hv4 := hide (C4.call ((Below.refl _ _).alloc (Nat.le_refl _) (Obj.cells #[.int .i64 0, .int .i64 0, .bool false, .int .i64 0] 30)) (unhide hv3))
                  have f10_4 := hide (C4.call ((Below.refl _ _).alloc (Nat.le_refl _) (Obj.cells #[.int .i64 0, .int .i64 0, .bool false, .int .i64 0] 30)) (unhide f10_3))
                  have lhv_9 : C < wz3.heap.size := (unhide hv3).2.1
                  have l10_9 : b10 < wz3.heap.size := (unhide f10_3).2.1
                  go_simp
                  refine hK.out _ _ (unhide hk4) (fun hHeld => ?_)
                  clear hK K
                  try simp only [Act.put, List.setIfInBounds_toArray, List.set_cons_zero, List.set_cons_succ]
                  clear hHeld
                  generalize hg : wz3.alloc (Obj.cells #[.int .i64 0, .int .i64 0, .bool false, .int .i64 0] 30) = wz4 at hk4 f9_4 hv4 f10_4 ⊢
                  clear hg hk3 hv3 f10_3
                  have hHeld := unhide hk4
                  obtain ⟨b9, hb9⟩ : ∃ b, b = wz3.heap.size := ⟨_, rfl⟩
                  rw [← hb9] at g9 f9_4 lhv_9 l10_9 ⊢
                  clear hb9
                  refine wpAnyH_ready (rs := [11]) (by kernel_rfl) (by simp) ?_
                  refine AllReadyH.cons (i := 11) (o := { dst := none, op := Op.store 30 (Operand.tmp 12) (Operand.tmp 75), type := 0, pos := _, after := _, guard := none }) rfl (fun K hK => ?_) AllReadyH.nil
                  obtain ⟨⟨c0, c1, c2, c3⟩, c4, c5⟩ := unhide f9_4
                  go_simp
                  refine hK.out _ _ ?_ (fun hHeld => ?_)
                  · exact S8.put (unhide hk4) (unhide g9) _ _ _ _
                  clear hK K c0 c1 c2 c3 c4 c5 hHeld
                  try simp only [Act.put, List.setIfInBounds_toArray, List.set_cons_zero, List.set_cons_succ]
                  have hk5 := hide (S8.put (unhide hk4) (unhide g9) (.int .i64 X.lo) (.int .i64 X.hi) (.bool X.live) (.int .i64 X.al))
                  have f9_5 := hide (C4.put (x' := X.lo) (y' := X.hi) (l' := X.live) (u' := X.al) (unhide f9_4))
                  have f10_5 := hide (C4.far (c := b9) (unhide f10_4) (by omega) (.int .i64 X.lo) (.int .i64 X.hi) (.bool X.live) (.int .i64 X.al))
                  have hv5 := hide (C4.far (c := b9) (unhide hv4) (by omega) (.int .i64 X.lo) (.int .i64 X.hi) (.bool X.live) (.int .i64 X.al))
                  obtain ⟨wz5, hw⟩ : ∃ x, x = (((wz4.setCell ⟨b9, 0, none⟩ (.int .i64 X.lo)).setCell ⟨b9, 1, none⟩ (.int .i64 X.hi)).setCell ⟨b9, 2, none⟩ (.bool X.live)).setCell ⟨b9, 3, none⟩ (.int .i64 X.al) := ⟨_, rfl⟩
                  rw [← hw] at hk5 f9_5 f10_5 hv5 ⊢
                  clear hw
                  have hHeld := unhide hk5
                  refine wpAnyH_ready (rs := [12]) (by kernel_rfl) (by simp) ?_
                  refine AllReadyH.cons (i := 12) (o := { dst := none, op := Op.store 30 (Operand.tmp 13) (Operand.tmp 76), type := 0, pos := _, after := _, guard := none }) rfl (fun K hK => ?_) AllReadyH.nil
                  obtain ⟨⟨c0, c1, c2, c3⟩, c4, c5⟩ := unhide f10_5
                  go_simp
                  refine hK.out _ _ ?_ (fun hHeld => ?_)
                  · exact S8.put (unhide hk5) (unhide g10) _ _ _ _
                  clear hK K c0 c1 c2 c3 c4 c5 hHeld
                  try simp only [Act.put, List.setIfInBounds_toArray, List.set_cons_zero, List.set_cons_succ]
                  have hk6 := hide (S8.put (unhide hk5) (unhide g10) (.int .i64 X.lo) (.int .i64 X.hi) (.bool X.live) (.int .i64 X.al))
                  have f10_6 := hide (C4.put (x' := X.lo) (y' := X.hi) (l' := X.live) (u' := X.al) (unhide f10_5))
                  have f9_6 := hide (C4.far (c := b10) (unhide f9_5) (by omega) (.int .i64 X.lo) (.int .i64 X.hi) (.bool X.live) (.int .i64 X.al))
                  have hv6 := hide (C4.far (c := b10) (unhide hv5) (by omega) (.int .i64 X.lo) (.int .i64 X.hi) (.bool X.live) (.int .i64 X.al))
                  obtain ⟨wz6, hw⟩ : ∃ x, x = (((wz5.setCell ⟨b10, 0, none⟩ (.int .i64 X.lo)).setCell ⟨b10, 1, none⟩ (.int .i64 X.hi)).setCell ⟨b10, 2, none⟩ (.bool X.live)).setCell ⟨b10, 3, none⟩ (.int .i64 X.al) := ⟨_, rfl⟩
                  rw [← hw] at hk6 f9_6 f10_6 hv6 ⊢
                  clear hw
                  have hHeld := unhide hk6
                  refine wpAnyH_done (by kernel_rfl) ?_ _
                  go_wp2_with fail
                  go_meet
                  exact ⟨b9, rfl, unhide f9_6, unhide hv6, unhide hk6⟩
                · have g9 := hide (FB.of (unhide hk2))
                  have f9_3 := hide (C4.new wz2 0 0 false 0 30)
                  have hk3 := hide (S8.alloc (unhide hk2) (Obj.cells #[.int .i64 0, .int .i64 0, .bool false, .int .i64 0] 30))
                  have hv3 := hide (C4.call ((Below.refl _ _).alloc (Nat.le_refl _) (Obj.cells #[.int .i64 0, .int .i64 0, .bool false, .int .i64 0] 30)) (unhide hv2))
                  have f10_3 := hide (C4.call ((Below.refl _ _).alloc (Nat.le_refl _) (Obj.cells #[.int .i64 0, .int .i64 0, .bool false, .int .i64 0] 30)) (unhide f10_2))
                  have lhv_9 : C < wz2.heap.size := (unhide hv2).2.1
                  have l10_9 : b10 < wz2.heap.size := (unhide f10_2).2.1
                  go_simp
                  refine hK.out _ _ (unhide hk3) (fun hHeld => ?_)
                  clear hK K
                  try simp only [Act.put, List.setIfInBounds_toArray, List.set_cons_zero, List.set_cons_succ]
                  clear hHeld
                  generalize hg : wz2.alloc (Obj.cells #[.int .i64 0, .int .i64 0, .bool false, .int .i64 0] 30) = wz3 at hk3 f9_3 hv3 f10_3 ⊢
                  clear hg hk2 hv2 f10_2
                  have hHeld := unhide hk3
                  obtain ⟨b9, hb9⟩ : ∃ b, b = wz2.heap.size := ⟨_, rfl⟩
                  rw [← hb9] at g9 f9_3 lhv_9 l10_9 ⊢
                  clear hb9
                  refine wpAnyH_ready (rs := [5]) (by kernel_rfl) (by simp) ?_
                  refine AllReadyH.cons (i := 5) (o := { dst := some 74, op := Op.call { callee := Callee.value (Operand.func 10), args := #[Operand.tmp 69, Operand.tmp 72, Operand.tmp 73], argTypes := #[2, 25, 25] }, type := 31, pos := _, after := _, guard := none }) rfl (fun K hK => ?_) AllReadyH.nil
                  go_simp
                  refine (op_any k (joinL al ah cl ch) (joinH al ah cl ch) bl bh k0 k4 (unhide HJ).1.1 (unhide HJ).1.2.1 (unhide HI).1.2.2.1 (unhide HI).1.2.2.2 _).mono ?_
                  rintro e wz4 ⟨rfl, hb4⟩
                  rw [← unhide HX]
                  have hk4 := hide (S8.call hb4 (unhide hk3))
                  have hv4 := hide (C4.call hb4 (unhide hv3))
                  have f10_4 := hide (C4.call hb4 (unhide f10_3))
                  have f9_4 := hide (C4.call hb4 (unhide f9_3))
                  clear hb4 hv3 f10_3 f9_3
                  refine hK.out _ _ (unhide hk4) (fun hHeld => ?_)
                  clear hK K
                  try simp only [Act.put, List.setIfInBounds_toArray, List.set_cons_zero, List.set_cons_succ]
                  refine wpAnyH_take (i := 6) (oi := { dst := some 68, op := Op.move (Operand.tmp 74), type := 31, pos := _, after := _, guard := none }) (v := ?_) rfl (by kernel_rfl) (by kernel_rfl) (by kernel_rfl) (fun _ _ _ h => h) (Or.inl ⟨by rfl, ?_⟩) (by assumption) ?_
                  rotate_left
                  · (intro w hSw; (try dsimp only at hSw); go_simp; try with_reducible rfl)
                  try simp only [Act.put, List.setIfInBounds_toArray, List.set_cons_zero, List.set_cons_succ]
                  refine wpAnyH_take (i := 7) (oi := { dst := some 75, op := Op.extract (Operand.tmp 68) 0, type := 30, pos := _, after := _, guard := none }) (v := ?_) rfl (by kernel_rfl) (by kernel_rfl) (by kernel_rfl) (fun _ _ _ h => h) (Or.inl ⟨by rfl, ?_⟩) (by assumption) ?_
                  rotate_left
                  · (intro w hSw; (try dsimp only at hSw); go_simp; try with_reducible rfl)
                  try simp only [Act.put, List.setIfInBounds_toArray, List.set_cons_zero, List.set_cons_succ]
                  refine wpAnyH_take (i := 8) (oi := { dst := some 76, op := Op.extract (Operand.tmp 68) 1, type := 30, pos := _, after := _, guard := none }) (v := ?_) rfl (by kernel_rfl) (by kernel_rfl) (by kernel_rfl) (fun _ _ _ h => h) (Or.inl ⟨by rfl, ?_⟩) (by assumption) ?_
                  rotate_left
                  · (intro w hSw; (try dsimp only at hSw); go_simp; try with_reducible rfl)
                  try simp only [Act.put, List.setIfInBounds_toArray, List.set_cons_zero, List.set_cons_succ]
                  refine wpAnyH_ready (rs := [11]) (by kernel_rfl) (by simp) ?_
                  refine AllReadyH.cons (i := 11) (o := { dst := none, op := Op.store 30 (Operand.tmp 12) (Operand.tmp 75), type := 0, pos := _, after := _, guard := none }) rfl (fun K hK => ?_) AllReadyH.nil
                  obtain ⟨⟨c0, c1, c2, c3⟩, c4, c5⟩ := unhide f9_4
                  go_simp
                  refine hK.out _ _ ?_ (fun hHeld => ?_)
                  · exact S8.put (unhide hk4) (unhide g9) _ _ _ _
                  clear hK K c0 c1 c2 c3 c4 c5 hHeld
                  try simp only [Act.put, List.setIfInBounds_toArray, List.set_cons_zero, List.set_cons_succ]
                  have hk5 := hide (S8.put (unhide hk4) (unhide g9) (.int .i64 X.lo) (.int .i64 X.hi) (.bool X.live) (.int .i64 X.al))
                  have f9_5 := hide (C4.put (x' := X.lo) (y' := X.hi) (l' := X.live) (u' := X.al) (unhide f9_4))
                  have f10_5 := hide (C4.far (c := b9) (unhide f10_4) (by omega) (.int .i64 X.lo) (.int .i64 X.hi) (.bool X.live) (.int .i64 X.al))
                  have hv5 := hide (C4.far (c := b9) (unhide hv4) (by omega) (.int .i64 X.lo) (.int .i64 X.hi) (.bool X.live) (.int .i64 X.al))
                  obtain ⟨wz5, hw⟩ : ∃ x, x = (((wz4.setCell ⟨b9, 0, none⟩ (.int .i64 X.lo)).setCell ⟨b9, 1, none⟩ (.int .i64 X.hi)).setCell ⟨b9, 2, none⟩ (.bool X.live)).setCell ⟨b9, 3, none⟩ (.int .i64 X.al) := ⟨_, rfl⟩
                  rw [← hw] at hk5 f9_5 f10_5 hv5 ⊢
                  clear hw
                  have hHeld := unhide hk5
                  refine wpAnyH_ready (rs := [12]) (by kernel_rfl) (by simp) ?_
                  refine AllReadyH.cons (i := 12) (o := { dst := none, op := Op.store 30 (Operand.tmp 13) (Operand.tmp 76), type := 0, pos := _, after := _, guard := none }) rfl (fun K hK => ?_) AllReadyH.nil
                  obtain ⟨⟨c0, c1, c2, c3⟩, c4, c5⟩ := unhide f10_5
                  go_simp
                  refine hK.out _ _ ?_ (fun hHeld => ?_)
                  · exact S8.put (unhide hk5) (unhide g10) _ _ _ _
                  clear hK K c0 c1 c2 c3 c4 c5 hHeld
                  try simp only [Act.put, List.setIfInBounds_toArray, List.set_cons_zero, List.set_cons_succ]
                  have hk6 := hide (S8.put (unhide hk5) (unhide g10) (.int .i64 X.lo) (.int .i64 X.hi) (.bool X.live) (.int .i64 X.al))
                  have f10_6 := hide (C4.put (x' := X.lo) (y' := X.hi) (l' := X.live) (u' := X.al) (unhide f10_5))
                  have f9_6 := hide (C4.far (c := b10) (unhide f9_5) (by omega) (.int .i64 X.lo) (.int .i64 X.hi) (.bool X.live) (.int .i64 X.al))
                  have hv6 := hide (C4.far (c := b10) (unhide hv5) (by omega) (.int .i64 X.lo) (.int .i64 X.hi) (.bool X.live) (.int .i64 X.al))
                  obtain ⟨wz6, hw⟩ : ∃ x, x = (((wz5.setCell ⟨b10, 0, none⟩ (.int .i64 X.lo)).setCell ⟨b10, 1, none⟩ (.int .i64 X.hi)).setCell ⟨b10, 2, none⟩ (.bool X.live)).setCell ⟨b10, 3, none⟩ (.int .i64 X.al) := ⟨_, rfl⟩
                  rw [← hw] at hk6 f9_6 f10_6 hv6 ⊢
                  clear hw
                  have hHeld := unhide hk6
                  refine wpAnyH_done (by kernel_rfl) ?_ _
                  go_wp2_with fail
                  go_meet
                  exact ⟨b9, rfl, unhide f9_6, unhide hv6, unhide hk6⟩
            · have g9 := hide (FB.of (unhide hk0))
              have f9_1 := hide (C4.new wz0 0 0 false 0 30)
              have hk1 := hide (S8.alloc (unhide hk0) (Obj.cells #[.int .i64 0, .int .i64 0, .bool false, .int .i64 0] 30))
              have hv1 := hide (C4.call ((Below.refl _ _).alloc (Nat.le_refl _) (Obj.cells #[.int .i64 0, .int .i64 0, .bool false, .int .i64 0] 30)) (unhide hv0))
              have lhv_9 : C < wz0.heap.size := (unhide hv0).2.1
              go_simp
              refine hK.out _ _ (unhide hk1) (fun hHeld => ?_)
              clear hK K
              try simp only [Act.put, List.setIfInBounds_toArray, List.set_cons_zero, List.set_cons_succ]
              clear hHeld
              generalize hg : wz0.alloc (Obj.cells #[.int .i64 0, .int .i64 0, .bool false, .int .i64 0] 30) = wz1 at hk1 f9_1 hv1 ⊢
              clear hg hk0 hv0
              have hHeld := unhide hk1
              obtain ⟨b9, hb9⟩ : ∃ b, b = wz0.heap.size := ⟨_, rfl⟩
              rw [← hb9] at g9 f9_1 lhv_9 ⊢
              clear hb9
              refine wpAnyH_ready (rs := [3, 10]) (by kernel_rfl) (by simp) ?_
              refine AllReadyH.cons (i := 3) (o := { dst := some 72, op := Op.call { callee := Callee.value (Operand.func 17), args := #[Operand.tmp 70, Operand.tmp 71], argTypes := #[25, 25] }, type := 25, pos := _, after := _, guard := none }) rfl (fun K hK => ?_) (AllReadyH.cons (i := 10) (o := { dst := some 13, op := Op.alloc 30, type := 0, pos := _, after := _, guard := none }) rfl (fun K hK => ?_) AllReadyH.nil)
              · go_simp
                refine (sIvJoin_c _ _ _ _ _).mono ?_
                rintro e wz2 ⟨rfl, hb2⟩
                have hk2 := hide (S8.call hb2 (unhide hk1))
                have hv2 := hide (C4.call hb2 (unhide hv1))
                have f9_2 := hide (C4.call hb2 (unhide f9_1))
                clear hb2 hv1 f9_1
                refine hK.out _ _ (unhide hk2) (fun hHeld => ?_)
                clear hK K
                try simp only [Act.put, List.setIfInBounds_toArray, List.set_cons_zero, List.set_cons_succ]
                refine wpAnyH_ready (rs := [5, 10]) (by kernel_rfl) (by simp) ?_
                refine AllReadyH.cons (i := 5) (o := { dst := some 74, op := Op.call { callee := Callee.value (Operand.func 10), args := #[Operand.tmp 69, Operand.tmp 72, Operand.tmp 73], argTypes := #[2, 25, 25] }, type := 31, pos := _, after := _, guard := none }) rfl (fun K hK => ?_) (AllReadyH.cons (i := 10) (o := { dst := some 13, op := Op.alloc 30, type := 0, pos := _, after := _, guard := none }) rfl (fun K hK => ?_) AllReadyH.nil)
                · go_simp
                  refine (op_any k (joinL al ah cl ch) (joinH al ah cl ch) bl bh k0 k4 (unhide HJ).1.1 (unhide HJ).1.2.1 (unhide HI).1.2.2.1 (unhide HI).1.2.2.2 _).mono ?_
                  rintro e wz3 ⟨rfl, hb3⟩
                  rw [← unhide HX]
                  have hk3 := hide (S8.call hb3 (unhide hk2))
                  have hv3 := hide (C4.call hb3 (unhide hv2))
                  have f9_3 := hide (C4.call hb3 (unhide f9_2))
                  clear hb3 hv2 f9_2
                  refine hK.out _ _ (unhide hk3) (fun hHeld => ?_)
                  clear hK K
                  try simp only [Act.put, List.setIfInBounds_toArray, List.set_cons_zero, List.set_cons_succ]
                  refine wpAnyH_take (i := 6) (oi := { dst := some 68, op := Op.move (Operand.tmp 74), type := 31, pos := _, after := _, guard := none }) (v := ?_) rfl (by kernel_rfl) (by kernel_rfl) (by kernel_rfl) (fun _ _ _ h => h) (Or.inl ⟨by rfl, ?_⟩) (by assumption) ?_
                  rotate_left
                  · (intro w hSw; (try dsimp only at hSw); go_simp; try with_reducible rfl)
                  try simp only [Act.put, List.setIfInBounds_toArray, List.set_cons_zero, List.set_cons_succ]
                  refine wpAnyH_take (i := 7) (oi := { dst := some 75, op := Op.extract (Operand.tmp 68) 0, type := 30, pos := _, after := _, guard := none }) (v := ?_) rfl (by kernel_rfl) (by kernel_rfl) (by kernel_rfl) (fun _ _ _ h => h) (Or.inl ⟨by rfl, ?_⟩) (by assumption) ?_
                  rotate_left
                  · (intro w hSw; (try dsimp only at hSw); go_simp; try with_reducible rfl)
                  try simp only [Act.put, List.setIfInBounds_toArray, List.set_cons_zero, List.set_cons_succ]
                  refine wpAnyH_take (i := 8) (oi := { dst := some 76, op := Op.extract (Operand.tmp 68) 1, type := 30, pos := _, after := _, guard := none }) (v := ?_) rfl (by kernel_rfl) (by kernel_rfl) (by kernel_rfl) (fun _ _ _ h => h) (Or.inl ⟨by rfl, ?_⟩) (by assumption) ?_
                  rotate_left
                  · (intro w hSw; (try dsimp only at hSw); go_simp; try with_reducible rfl)
                  try simp only [Act.put, List.setIfInBounds_toArray, List.set_cons_zero, List.set_cons_succ]
                  refine wpAnyH_ready (rs := [10]) (by kernel_rfl) (by simp) ?_
                  refine AllReadyH.cons (i := 10) (o := { dst := some 13, op := Op.alloc 30, type := 0, pos := _, after := _, guard := none }) rfl (fun K hK => ?_) AllReadyH.nil
                  have g10 := hide (FB.of (unhide hk3))
                  have f10_4 := hide (C4.new wz3 0 0 false 0 30)
                  have hk4 := hide (S8.alloc (unhide hk3) (Obj.cells #[.int .i64 0, .int .i64 0, .bool false, .int .i64 0] 30))
                  have hv4 := hide (C4.call ((Below.refl _ _).alloc (Nat.le_refl _) (Obj.cells #[.int .i64 0, .int .i64 0, .bool false, .int .i64 0] 30)) (unhide hv3))
                  have f9_4 := hide (C4.call ((Below.refl _ _).alloc (Nat.le_refl _) (Obj.cells #[.int .i64 0, .int .i64 0, .bool false, .int .i64 0] 30)) (unhide f9_3))
                  have lhv_10 : C < wz3.heap.size := (unhide hv3).2.1
                  have l9_10 : b9 < wz3.heap.size := (unhide f9_3).2.1
                  go_simp
                  refine hK.out _ _ (unhide hk4) (fun hHeld => ?_)
                  clear hK K
                  try simp only [Act.put, List.setIfInBounds_toArray, List.set_cons_zero, List.set_cons_succ]
                  clear hHeld
                  generalize hg : wz3.alloc (Obj.cells #[.int .i64 0, .int .i64 0, .bool false, .int .i64 0] 30) = wz4 at hk4 f10_4 hv4 f9_4 ⊢
                  clear hg hk3 hv3 f9_3
                  have hHeld := unhide hk4
                  obtain ⟨b10, hb10⟩ : ∃ b, b = wz3.heap.size := ⟨_, rfl⟩
                  rw [← hb10] at g10 f10_4 lhv_10 l9_10 ⊢
                  clear hb10
                  refine wpAnyH_ready (rs := [11]) (by kernel_rfl) (by simp) ?_
                  refine AllReadyH.cons (i := 11) (o := { dst := none, op := Op.store 30 (Operand.tmp 12) (Operand.tmp 75), type := 0, pos := _, after := _, guard := none }) rfl (fun K hK => ?_) AllReadyH.nil
                  obtain ⟨⟨c0, c1, c2, c3⟩, c4, c5⟩ := unhide f9_4
                  go_simp
                  refine hK.out _ _ ?_ (fun hHeld => ?_)
                  · exact S8.put (unhide hk4) (unhide g9) _ _ _ _
                  clear hK K c0 c1 c2 c3 c4 c5 hHeld
                  try simp only [Act.put, List.setIfInBounds_toArray, List.set_cons_zero, List.set_cons_succ]
                  have hk5 := hide (S8.put (unhide hk4) (unhide g9) (.int .i64 X.lo) (.int .i64 X.hi) (.bool X.live) (.int .i64 X.al))
                  have f9_5 := hide (C4.put (x' := X.lo) (y' := X.hi) (l' := X.live) (u' := X.al) (unhide f9_4))
                  have f10_5 := hide (C4.far (c := b9) (unhide f10_4) (by omega) (.int .i64 X.lo) (.int .i64 X.hi) (.bool X.live) (.int .i64 X.al))
                  have hv5 := hide (C4.far (c := b9) (unhide hv4) (by omega) (.int .i64 X.lo) (.int .i64 X.hi) (.bool X.live) (.int .i64 X.al))
                  obtain ⟨wz5, hw⟩ : ∃ x, x = (((wz4.setCell ⟨b9, 0, none⟩ (.int .i64 X.lo)).setCell ⟨b9, 1, none⟩ (.int .i64 X.hi)).setCell ⟨b9, 2, none⟩ (.bool X.live)).setCell ⟨b9, 3, none⟩ (.int .i64 X.al) := ⟨_, rfl⟩
                  rw [← hw] at hk5 f9_5 f10_5 hv5 ⊢
                  clear hw
                  have hHeld := unhide hk5
                  refine wpAnyH_ready (rs := [12]) (by kernel_rfl) (by simp) ?_
                  refine AllReadyH.cons (i := 12) (o := { dst := none, op := Op.store 30 (Operand.tmp 13) (Operand.tmp 76), type := 0, pos := _, after := _, guard := none }) rfl (fun K hK => ?_) AllReadyH.nil
                  obtain ⟨⟨c0, c1, c2, c3⟩, c4, c5⟩ := unhide f10_5
                  go_simp
                  refine hK.out _ _ ?_ (fun hHeld => ?_)
                  · exact S8.put (unhide hk5) (unhide g10) _ _ _ _
                  clear hK K c0 c1 c2 c3 c4 c5 hHeld
                  try simp only [Act.put, List.setIfInBounds_toArray, List.set_cons_zero, List.set_cons_succ]
                  have hk6 := hide (S8.put (unhide hk5) (unhide g10) (.int .i64 X.lo) (.int .i64 X.hi) (.bool X.live) (.int .i64 X.al))
                  have f10_6 := hide (C4.put (x' := X.lo) (y' := X.hi) (l' := X.live) (u' := X.al) (unhide f10_5))
                  have f9_6 := hide (C4.far (c := b10) (unhide f9_5) (by omega) (.int .i64 X.lo) (.int .i64 X.hi) (.bool X.live) (.int .i64 X.al))
                  have hv6 := hide (C4.far (c := b10) (unhide hv5) (by omega) (.int .i64 X.lo) (.int .i64 X.hi) (.bool X.live) (.int .i64 X.al))
                  obtain ⟨wz6, hw⟩ : ∃ x, x = (((wz5.setCell ⟨b10, 0, none⟩ (.int .i64 X.lo)).setCell ⟨b10, 1, none⟩ (.int .i64 X.hi)).setCell ⟨b10, 2, none⟩ (.bool X.live)).setCell ⟨b10, 3, none⟩ (.int .i64 X.al) := ⟨_, rfl⟩
                  rw [← hw] at hk6 f9_6 f10_6 hv6 ⊢
                  clear hw
                  have hHeld := unhide hk6
                  refine wpAnyH_done (by kernel_rfl) ?_ _
                  go_wp2_with fail
                  go_meet
                  exact ⟨b9, rfl, unhide f9_6, unhide hv6, unhide hk6⟩
                · have g10 := hide (FB.of (unhide hk2))
                  have f10_3 := hide (C4.new wz2 0 0 false 0 30)
                  have hk3 := hide (S8.alloc (unhide hk2) (Obj.cells #[.int .i64 0, .int .i64 0, .bool false, .int .i64 0] 30))
                  have hv3 := hide (C4.call ((Below.refl _ _).alloc (Nat.le_refl _) (Obj.cells #[.int .i64 0, .int .i64 0, .bool false, .int .i64 0] 30)) (unhide hv2))
                  have f9_3 := hide (C4.call ((Below.refl _ _).alloc (Nat.le_refl _) (Obj.cells #[.int .i64 0, .int .i64 0, .bool false, .int .i64 0] 30)) (unhide f9_2))
                  have lhv_10 : C < wz2.heap.size := (unhide hv2).2.1
                  have l9_10 : b9 < wz2.heap.size := (unhide f9_2).2.1
                  go_simp
                  refine hK.out _ _ (unhide hk3) (fun hHeld => ?_)
                  clear hK K
                  try simp only [Act.put, List.setIfInBounds_toArray, List.set_cons_zero, List.set_cons_succ]
                  clear hHeld
                  generalize hg : wz2.alloc (Obj.cells #[.int .i64 0, .int .i64 0, .bool false, .int .i64 0] 30) = wz3 at hk3 f10_3 hv3 f9_3 ⊢
                  clear hg hk2 hv2 f9_2
                  have hHeld := unhide hk3
                  obtain ⟨b10, hb10⟩ : ∃ b, b = wz2.heap.size := ⟨_, rfl⟩
                  rw [← hb10] at g10 f10_3 lhv_10 l9_10 ⊢
                  clear hb10
                  refine wpAnyH_ready (rs := [5]) (by kernel_rfl) (by simp) ?_
                  refine AllReadyH.cons (i := 5) (o := { dst := some 74, op := Op.call { callee := Callee.value (Operand.func 10), args := #[Operand.tmp 69, Operand.tmp 72, Operand.tmp 73], argTypes := #[2, 25, 25] }, type := 31, pos := _, after := _, guard := none }) rfl (fun K hK => ?_) AllReadyH.nil
                  go_simp
                  refine (op_any k (joinL al ah cl ch) (joinH al ah cl ch) bl bh k0 k4 (unhide HJ).1.1 (unhide HJ).1.2.1 (unhide HI).1.2.2.1 (unhide HI).1.2.2.2 _).mono ?_
                  rintro e wz4 ⟨rfl, hb4⟩
                  rw [← unhide HX]
                  have hk4 := hide (S8.call hb4 (unhide hk3))
                  have hv4 := hide (C4.call hb4 (unhide hv3))
                  have f9_4 := hide (C4.call hb4 (unhide f9_3))
                  have f10_4 := hide (C4.call hb4 (unhide f10_3))
                  clear hb4 hv3 f9_3 f10_3
                  refine hK.out _ _ (unhide hk4) (fun hHeld => ?_)
                  clear hK K
                  try simp only [Act.put, List.setIfInBounds_toArray, List.set_cons_zero, List.set_cons_succ]
                  refine wpAnyH_take (i := 6) (oi := { dst := some 68, op := Op.move (Operand.tmp 74), type := 31, pos := _, after := _, guard := none }) (v := ?_) rfl (by kernel_rfl) (by kernel_rfl) (by kernel_rfl) (fun _ _ _ h => h) (Or.inl ⟨by rfl, ?_⟩) (by assumption) ?_
                  rotate_left
                  · (intro w hSw; (try dsimp only at hSw); go_simp; try with_reducible rfl)
                  try simp only [Act.put, List.setIfInBounds_toArray, List.set_cons_zero, List.set_cons_succ]
                  refine wpAnyH_take (i := 7) (oi := { dst := some 75, op := Op.extract (Operand.tmp 68) 0, type := 30, pos := _, after := _, guard := none }) (v := ?_) rfl (by kernel_rfl) (by kernel_rfl) (by kernel_rfl) (fun _ _ _ h => h) (Or.inl ⟨by rfl, ?_⟩) (by assumption) ?_
                  rotate_left
                  · (intro w hSw; (try dsimp only at hSw); go_simp; try with_reducible rfl)
                  try simp only [Act.put, List.setIfInBounds_toArray, List.set_cons_zero, List.set_cons_succ]
                  refine wpAnyH_take (i := 8) (oi := { dst := some 76, op := Op.extract (Operand.tmp 68) 1, type := 30, pos := _, after := _, guard := none }) (v := ?_) rfl (by kernel_rfl) (by kernel_rfl) (by kernel_rfl) (fun _ _ _ h => h) (Or.inl ⟨by rfl, ?_⟩) (by assumption) ?_
                  rotate_left
                  · (intro w hSw; (try dsimp only at hSw); go_simp; try with_reducible rfl)
                  try simp only [Act.put, List.setIfInBounds_toArray, List.set_cons_zero, List.set_cons_succ]
                  refine wpAnyH_ready (rs := [11]) (by kernel_rfl) (by simp) ?_
                  refine AllReadyH.cons (i := 11) (o := { dst := none, op := Op.store 30 (Operand.tmp 12) (Operand.tmp 75), type := 0, pos := _, after := _, guard := none }) rfl (fun K hK => ?_) AllReadyH.nil
                  obtain ⟨⟨c0, c1, c2, c3⟩, c4, c5⟩ := unhide f9_4
                  go_simp
                  refine hK.out _ _ ?_ (fun hHeld => ?_)
                  · exact S8.put (unhide hk4) (unhide g9) _ _ _ _
                  clear hK K c0 c1 c2 c3 c4 c5 hHeld
                  try simp only [Act.put, List.setIfInBounds_toArray, List.set_cons_zero, List.set_cons_succ]
                  have hk5 := hide (S8.put (unhide hk4) (unhide g9) (.int .i64 X.lo) (.int .i64 X.hi) (.bool X.live) (.int .i64 X.al))
                  have f9_5 := hide (C4.put (x' := X.lo) (y' := X.hi) (l' := X.live) (u' := X.al) (unhide f9_4))
                  have f10_5 := hide (C4.far (c := b9) (unhide f10_4) (by omega) (.int .i64 X.lo) (.int .i64 X.hi) (.bool X.live) (.int .i64 X.al))
                  have hv5 := hide (C4.far (c := b9) (unhide hv4) (by omega) (.int .i64 X.lo) (.int .i64 X.hi) (.bool X.live) (.int .i64 X.al))
                  obtain ⟨wz5, hw⟩ : ∃ x, x = (((wz4.setCell ⟨b9, 0, none⟩ (.int .i64 X.lo)).setCell ⟨b9, 1, none⟩ (.int .i64 X.hi)).setCell ⟨b9, 2, none⟩ (.bool X.live)).setCell ⟨b9, 3, none⟩ (.int .i64 X.al) := ⟨_, rfl⟩
                  rw [← hw] at hk5 f9_5 f10_5 hv5 ⊢
                  clear hw
                  have hHeld := unhide hk5
                  refine wpAnyH_ready (rs := [12]) (by kernel_rfl) (by simp) ?_
                  refine AllReadyH.cons (i := 12) (o := { dst := none, op := Op.store 30 (Operand.tmp 13) (Operand.tmp 76), type := 0, pos := _, after := _, guard := none }) rfl (fun K hK => ?_) AllReadyH.nil
                  obtain ⟨⟨c0, c1, c2, c3⟩, c4, c5⟩ := unhide f10_5
                  go_simp
                  refine hK.out _ _ ?_ (fun hHeld => ?_)
                  · exact S8.put (unhide hk5) (unhide g10) _ _ _ _
                  clear hK K c0 c1 c2 c3 c4 c5 hHeld
                  try simp only [Act.put, List.setIfInBounds_toArray, List.set_cons_zero, List.set_cons_succ]
                  have hk6 := hide (S8.put (unhide hk5) (unhide g10) (.int .i64 X.lo) (.int .i64 X.hi) (.bool X.live) (.int .i64 X.al))
                  have f10_6 := hide (C4.put (x' := X.lo) (y' := X.hi) (l' := X.live) (u' := X.al) (unhide f10_5))
                  have f9_6 := hide (C4.far (c := b10) (unhide f9_5) (by omega) (.int .i64 X.lo) (.int .i64 X.hi) (.bool X.live) (.int .i64 X.al))
                  have hv6 := hide (C4.far (c := b10) (unhide hv5) (by omega) (.int .i64 X.lo) (.int .i64 X.hi) (.bool X.live) (.int .i64 X.al))
                  obtain ⟨wz6, hw⟩ : ∃ x, x = (((wz5.setCell ⟨b10, 0, none⟩ (.int .i64 X.lo)).setCell ⟨b10, 1, none⟩ (.int .i64 X.hi)).setCell ⟨b10, 2, none⟩ (.bool X.live)).setCell ⟨b10, 3, none⟩ (.int .i64 X.al) := ⟨_, rfl⟩
                  rw [← hw] at hk6 f9_6 f10_6 hv6 ⊢
                  clear hw
                  have hHeld := unhide hk6
                  refine wpAnyH_done (by kernel_rfl) ?_ _
                  go_wp2_with fail
                  go_meet
                  exact ⟨b9, rfl, unhide f9_6, unhide hv6, unhide hk6⟩
              · have g10 := hide (FB.of (unhide hk1))
                have f10_2 := hide (C4.new wz1 0 0 false 0 30)
                have hk2 := hide (S8.alloc (unhide hk1) (Obj.cells #[.int .i64 0, .int .i64 0, .bool false, .int .i64 0] 30))
                have hv2 := hide (C4.call ((Below.refl _ _).alloc (Nat.le_refl _) (Obj.cells #[.int .i64 0, .int .i64 0, .bool false, .int .i64 0] 30)) (unhide hv1))
                have f9_2 := hide (C4.call ((Below.refl _ _).alloc (Nat.le_refl _) (Obj.cells #[.int .i64 0, .int .i64 0, .bool false, .int .i64 0] 30)) (unhide f9_1))
                have lhv_10 : C < wz1.heap.size := (unhide hv1).2.1
                have l9_10 : b9 < wz1.heap.size := (unhide f9_1).2.1
                go_simp
                refine hK.out _ _ (unhide hk2) (fun hHeld => ?_)
                clear hK K
                try simp only [Act.put, List.setIfInBounds_toArray, List.set_cons_zero, List.set_cons_succ]
                clear hHeld
                generalize hg : wz1.alloc (Obj.cells #[.int .i64 0, .int .i64 0, .bool false, .int .i64 0] 30) = wz2 at hk2 f10_2 hv2 f9_2 ⊢
                clear hg hk1 hv1 f9_1
                have hHeld := unhide hk2
                obtain ⟨b10, hb10⟩ : ∃ b, b = wz1.heap.size := ⟨_, rfl⟩
                rw [← hb10] at g10 f10_2 lhv_10 l9_10 ⊢
                clear hb10
                refine wpAnyH_ready (rs := [3]) (by kernel_rfl) (by simp) ?_
                refine AllReadyH.cons (i := 3) (o := { dst := some 72, op := Op.call { callee := Callee.value (Operand.func 17), args := #[Operand.tmp 70, Operand.tmp 71], argTypes := #[25, 25] }, type := 25, pos := _, after := _, guard := none }) rfl (fun K hK => ?_) AllReadyH.nil
                go_simp
                refine (sIvJoin_c _ _ _ _ _).mono ?_
                rintro e wz3 ⟨rfl, hb3⟩
                have hk3 := hide (S8.call hb3 (unhide hk2))
                have hv3 := hide (C4.call hb3 (unhide hv2))
                have f9_3 := hide (C4.call hb3 (unhide f9_2))
                have f10_3 := hide (C4.call hb3 (unhide f10_2))
                clear hb3 hv2 f9_2 f10_2
                refine hK.out _ _ (unhide hk3) (fun hHeld => ?_)
                clear hK K
                try simp only [Act.put, List.setIfInBounds_toArray, List.set_cons_zero, List.set_cons_succ]
                refine wpAnyH_ready (rs := [5]) (by kernel_rfl) (by simp) ?_
                refine AllReadyH.cons (i := 5) (o := { dst := some 74, op := Op.call { callee := Callee.value (Operand.func 10), args := #[Operand.tmp 69, Operand.tmp 72, Operand.tmp 73], argTypes := #[2, 25, 25] }, type := 31, pos := _, after := _, guard := none }) rfl (fun K hK => ?_) AllReadyH.nil
                go_simp
                refine (op_any k (joinL al ah cl ch) (joinH al ah cl ch) bl bh k0 k4 (unhide HJ).1.1 (unhide HJ).1.2.1 (unhide HI).1.2.2.1 (unhide HI).1.2.2.2 _).mono ?_
                rintro e wz4 ⟨rfl, hb4⟩
                rw [← unhide HX]
                have hk4 := hide (S8.call hb4 (unhide hk3))
                have hv4 := hide (C4.call hb4 (unhide hv3))
                have f9_4 := hide (C4.call hb4 (unhide f9_3))
                have f10_4 := hide (C4.call hb4 (unhide f10_3))
                clear hb4 hv3 f9_3 f10_3
                refine hK.out _ _ (unhide hk4) (fun hHeld => ?_)
                clear hK K
                try simp only [Act.put, List.setIfInBounds_toArray, List.set_cons_zero, List.set_cons_succ]
                refine wpAnyH_take (i := 6) (oi := { dst := some 68, op := Op.move (Operand.tmp 74), type := 31, pos := _, after := _, guard := none }) (v := ?_) rfl (by kernel_rfl) (by kernel_rfl) (by kernel_rfl) (fun _ _ _ h => h) (Or.inl ⟨by rfl, ?_⟩) (by assumption) ?_
                rotate_left
                · (intro w hSw; (try dsimp only at hSw); go_simp; try with_reducible rfl)
                try simp only [Act.put, List.setIfInBounds_toArray, List.set_cons_zero, List.set_cons_succ]
                refine wpAnyH_take (i := 7) (oi := { dst := some 75, op := Op.extract (Operand.tmp 68) 0, type := 30, pos := _, after := _, guard := none }) (v := ?_) rfl (by kernel_rfl) (by kernel_rfl) (by kernel_rfl) (fun _ _ _ h => h) (Or.inl ⟨by rfl, ?_⟩) (by assumption) ?_
                rotate_left
                · (intro w hSw; (try dsimp only at hSw); go_simp; try with_reducible rfl)
                try simp only [Act.put, List.setIfInBounds_toArray, List.set_cons_zero, List.set_cons_succ]
                refine wpAnyH_take (i := 8) (oi := { dst := some 76, op := Op.extract (Operand.tmp 68) 1, type := 30, pos := _, after := _, guard := none }) (v := ?_) rfl (by kernel_rfl) (by kernel_rfl) (by kernel_rfl) (fun _ _ _ h => h) (Or.inl ⟨by rfl, ?_⟩) (by assumption) ?_
                rotate_left
                · (intro w hSw; (try dsimp only at hSw); go_simp; try with_reducible rfl)
                try simp only [Act.put, List.setIfInBounds_toArray, List.set_cons_zero, List.set_cons_succ]
                refine wpAnyH_ready (rs := [11]) (by kernel_rfl) (by simp) ?_
                refine AllReadyH.cons (i := 11) (o := { dst := none, op := Op.store 30 (Operand.tmp 12) (Operand.tmp 75), type := 0, pos := _, after := _, guard := none }) rfl (fun K hK => ?_) AllReadyH.nil
                obtain ⟨⟨c0, c1, c2, c3⟩, c4, c5⟩ := unhide f9_4
                go_simp
                refine hK.out _ _ ?_ (fun hHeld => ?_)
                · exact S8.put (unhide hk4) (unhide g9) _ _ _ _
                clear hK K c0 c1 c2 c3 c4 c5 hHeld
                try simp only [Act.put, List.setIfInBounds_toArray, List.set_cons_zero, List.set_cons_succ]
                have hk5 := hide (S8.put (unhide hk4) (unhide g9) (.int .i64 X.lo) (.int .i64 X.hi) (.bool X.live) (.int .i64 X.al))
                have f9_5 := hide (C4.put (x' := X.lo) (y' := X.hi) (l' := X.live) (u' := X.al) (unhide f9_4))
                have f10_5 := hide (C4.far (c := b9) (unhide f10_4) (by omega) (.int .i64 X.lo) (.int .i64 X.hi) (.bool X.live) (.int .i64 X.al))
                have hv5 := hide (C4.far (c := b9) (unhide hv4) (by omega) (.int .i64 X.lo) (.int .i64 X.hi) (.bool X.live) (.int .i64 X.al))
                obtain ⟨wz5, hw⟩ : ∃ x, x = (((wz4.setCell ⟨b9, 0, none⟩ (.int .i64 X.lo)).setCell ⟨b9, 1, none⟩ (.int .i64 X.hi)).setCell ⟨b9, 2, none⟩ (.bool X.live)).setCell ⟨b9, 3, none⟩ (.int .i64 X.al) := ⟨_, rfl⟩
                rw [← hw] at hk5 f9_5 f10_5 hv5 ⊢
                clear hw
                have hHeld := unhide hk5
                refine wpAnyH_ready (rs := [12]) (by kernel_rfl) (by simp) ?_
                refine AllReadyH.cons (i := 12) (o := { dst := none, op := Op.store 30 (Operand.tmp 13) (Operand.tmp 76), type := 0, pos := _, after := _, guard := none }) rfl (fun K hK => ?_) AllReadyH.nil
                obtain ⟨⟨c0, c1, c2, c3⟩, c4, c5⟩ := unhide f10_5
                go_simp
                refine hK.out _ _ ?_ (fun hHeld => ?_)
                · exact S8.put (unhide hk5) (unhide g10) _ _ _ _
                clear hK K c0 c1 c2 c3 c4 c5 hHeld
                try simp only [Act.put, List.setIfInBounds_toArray, List.set_cons_zero, List.set_cons_succ]
                have hk6 := hide (S8.put (unhide hk5) (unhide g10) (.int .i64 X.lo) (.int .i64 X.hi) (.bool X.live) (.int .i64 X.al))
                have f10_6 := hide (C4.put (x' := X.lo) (y' := X.hi) (l' := X.live) (u' := X.al) (unhide f10_5))
                have f9_6 := hide (C4.far (c := b10) (unhide f9_5) (by omega) (.int .i64 X.lo) (.int .i64 X.hi) (.bool X.live) (.int .i64 X.al))
                have hv6 := hide (C4.far (c := b10) (unhide hv5) (by omega) (.int .i64 X.lo) (.int .i64 X.hi) (.bool X.live) (.int .i64 X.al))
                obtain ⟨wz6, hw⟩ : ∃ x, x = (((wz5.setCell ⟨b10, 0, none⟩ (.int .i64 X.lo)).setCell ⟨b10, 1, none⟩ (.int .i64 X.hi)).setCell ⟨b10, 2, none⟩ (.bool X.live)).setCell ⟨b10, 3, none⟩ (.int .i64 X.al) := ⟨_, rfl⟩
                rw [← hw] at hk6 f9_6 f10_6 hv6 ⊢
                clear hw
                have hHeld := unhide hk6
                refine wpAnyH_done (by kernel_rfl) ?_ _
                go_wp2_with fail
                go_meet
                exact ⟨b9, rfl, unhide f9_6, unhide hv6, unhide hk6⟩
            · have g10 := hide (FB.of (unhide hk0))
              have f10_1 := hide (C4.new wz0 0 0 false 0 30)
              have hk1 := hide (S8.alloc (unhide hk0) (Obj.cells #[.int .i64 0, .int .i64 0, .bool false, .int .i64 0] 30))
              have hv1 := hide (C4.call ((Below.refl _ _).alloc (Nat.le_refl _) (Obj.cells #[.int .i64 0, .int .i64 0, .bool false, .int .i64 0] 30)) (unhide hv0))
              have lhv_10 : C < wz0.heap.size := (unhide hv0).2.1
              go_simp
              refine hK.out _ _ (unhide hk1) (fun hHeld => ?_)
              clear hK K
              try simp only [Act.put, List.setIfInBounds_toArray, List.set_cons_zero, List.set_cons_succ]
              clear hHeld
              generalize hg : wz0.alloc (Obj.cells #[.int .i64 0, .int .i64 0, .bool false, .int .i64 0] 30) = wz1 at hk1 f10_1 hv1 ⊢
              clear hg hk0 hv0
              have hHeld := unhide hk1
              obtain ⟨b10, hb10⟩ : ∃ b, b = wz0.heap.size := ⟨_, rfl⟩
              rw [← hb10] at g10 f10_1 lhv_10 ⊢
              clear hb10
              refine wpAnyH_ready (rs := [3, 9]) (by kernel_rfl) (by simp) ?_
              refine AllReadyH.cons (i := 3) (o := { dst := some 72, op := Op.call { callee := Callee.value (Operand.func 17), args := #[Operand.tmp 70, Operand.tmp 71], argTypes := #[25, 25] }, type := 25, pos := _, after := _, guard := none }) rfl (fun K hK => ?_) (AllReadyH.cons (i := 9) (o := { dst := some 12, op := Op.alloc 30, type := 0, pos := _, after := _, guard := none }) rfl (fun K hK => ?_) AllReadyH.nil)
              · go_simp
                refine (sIvJoin_c _ _ _ _ _).mono ?_
                rintro e wz2 ⟨rfl, hb2⟩
                have hk2 := hide (S8.call hb2 (unhide hk1))
                have hv2 := hide (C4.call hb2 (unhide hv1))
                have f10_2 := hide (C4.call hb2 (unhide f10_1))
                clear hb2 hv1 f10_1
                refine hK.out _ _ (unhide hk2) (fun hHeld => ?_)
                clear hK K
                try simp only [Act.put, List.setIfInBounds_toArray, List.set_cons_zero, List.set_cons_succ]
                refine wpAnyH_ready (rs := [5, 9]) (by kernel_rfl) (by simp) ?_
                refine AllReadyH.cons (i := 5) (o := { dst := some 74, op := Op.call { callee := Callee.value (Operand.func 10), args := #[Operand.tmp 69, Operand.tmp 72, Operand.tmp 73], argTypes := #[2, 25, 25] }, type := 31, pos := _, after := _, guard := none }) rfl (fun K hK => ?_) (AllReadyH.cons (i := 9) (o := { dst := some 12, op := Op.alloc 30, type := 0, pos := _, after := _, guard := none }) rfl (fun K hK => ?_) AllReadyH.nil)
                · go_simp
                  refine (op_any k (joinL al ah cl ch) (joinH al ah cl ch) bl bh k0 k4 (unhide HJ).1.1 (unhide HJ).1.2.1 (unhide HI).1.2.2.1 (unhide HI).1.2.2.2 _).mono ?_
                  rintro e wz3 ⟨rfl, hb3⟩
                  rw [← unhide HX]
                  have hk3 := hide (S8.call hb3 (unhide hk2))
                  have hv3 := hide (C4.call hb3 (unhide hv2))
                  have f10_3 := hide (C4.call hb3 (unhide f10_2))
                  clear hb3 hv2 f10_2
                  refine hK.out _ _ (unhide hk3) (fun hHeld => ?_)
                  clear hK K
                  try simp only [Act.put, List.setIfInBounds_toArray, List.set_cons_zero, List.set_cons_succ]
                  refine wpAnyH_take (i := 6) (oi := { dst := some 68, op := Op.move (Operand.tmp 74), type := 31, pos := _, after := _, guard := none }) (v := ?_) rfl (by kernel_rfl) (by kernel_rfl) (by kernel_rfl) (fun _ _ _ h => h) (Or.inl ⟨by rfl, ?_⟩) (by assumption) ?_
                  rotate_left
                  · (intro w hSw; (try dsimp only at hSw); go_simp; try with_reducible rfl)
                  try simp only [Act.put, List.setIfInBounds_toArray, List.set_cons_zero, List.set_cons_succ]
                  refine wpAnyH_take (i := 7) (oi := { dst := some 75, op := Op.extract (Operand.tmp 68) 0, type := 30, pos := _, after := _, guard := none }) (v := ?_) rfl (by kernel_rfl) (by kernel_rfl) (by kernel_rfl) (fun _ _ _ h => h) (Or.inl ⟨by rfl, ?_⟩) (by assumption) ?_
                  rotate_left
                  · (intro w hSw; (try dsimp only at hSw); go_simp; try with_reducible rfl)
                  try simp only [Act.put, List.setIfInBounds_toArray, List.set_cons_zero, List.set_cons_succ]
                  refine wpAnyH_take (i := 8) (oi := { dst := some 76, op := Op.extract (Operand.tmp 68) 1, type := 30, pos := _, after := _, guard := none }) (v := ?_) rfl (by kernel_rfl) (by kernel_rfl) (by kernel_rfl) (fun _ _ _ h => h) (Or.inl ⟨by rfl, ?_⟩) (by assumption) ?_
                  rotate_left
                  · (intro w hSw; (try dsimp only at hSw); go_simp; try with_reducible rfl)
                  try simp only [Act.put, List.setIfInBounds_toArray, List.set_cons_zero, List.set_cons_succ]
                  refine wpAnyH_ready (rs := [9]) (by kernel_rfl) (by simp) ?_
                  refine AllReadyH.cons (i := 9) (o := { dst := some 12, op := Op.alloc 30, type := 0, pos := _, after := _, guard := none }) rfl (fun K hK => ?_) AllReadyH.nil
                  have g9 := hide (FB.of (unhide hk3))
                  have f9_4 := hide (C4.new wz3 0 0 false 0 30)
                  have hk4 := hide (S8.alloc (unhide hk3) (Obj.cells #[.int .i64 0, .int .i64 0, .bool false, .int .i64 0] 30))
                  have hv4 := hide (C4.call ((Below.refl _ _).alloc (Nat.le_refl _) (Obj.cells #[.int .i64 0, .int .i64 0, .bool false, .int .i64 0] 30)) (unhide hv3))
                  have f10_4 := hide (C4.call ((Below.refl _ _).alloc (Nat.le_refl _) (Obj.cells #[.int .i64 0, .int .i64 0, .bool false, .int .i64 0] 30)) (unhide f10_3))
                  have lhv_9 : C < wz3.heap.size := (unhide hv3).2.1
                  have l10_9 : b10 < wz3.heap.size := (unhide f10_3).2.1
                  go_simp
                  refine hK.out _ _ (unhide hk4) (fun hHeld => ?_)
                  clear hK K
                  try simp only [Act.put, List.setIfInBounds_toArray, List.set_cons_zero, List.set_cons_succ]
                  clear hHeld
                  generalize hg : wz3.alloc (Obj.cells #[.int .i64 0, .int .i64 0, .bool false, .int .i64 0] 30) = wz4 at hk4 f9_4 hv4 f10_4 ⊢
                  clear hg hk3 hv3 f10_3
                  have hHeld := unhide hk4
                  obtain ⟨b9, hb9⟩ : ∃ b, b = wz3.heap.size := ⟨_, rfl⟩
                  rw [← hb9] at g9 f9_4 lhv_9 l10_9 ⊢
                  clear hb9
                  refine wpAnyH_ready (rs := [11]) (by kernel_rfl) (by simp) ?_
                  refine AllReadyH.cons (i := 11) (o := { dst := none, op := Op.store 30 (Operand.tmp 12) (Operand.tmp 75), type := 0, pos := _, after := _, guard := none }) rfl (fun K hK => ?_) AllReadyH.nil
                  obtain ⟨⟨c0, c1, c2, c3⟩, c4, c5⟩ := unhide f9_4
                  go_simp
                  refine hK.out _ _ ?_ (fun hHeld => ?_)
                  · exact S8.put (unhide hk4) (unhide g9) _ _ _ _
                  clear hK K c0 c1 c2 c3 c4 c5 hHeld
                  try simp only [Act.put, List.setIfInBounds_toArray, List.set_cons_zero, List.set_cons_succ]
                  have hk5 := hide (S8.put (unhide hk4) (unhide g9) (.int .i64 X.lo) (.int .i64 X.hi) (.bool X.live) (.int .i64 X.al))
                  have f9_5 := hide (C4.put (x' := X.lo) (y' := X.hi) (l' := X.live) (u' := X.al) (unhide f9_4))
                  have f10_5 := hide (C4.far (c := b9) (unhide f10_4) (by omega) (.int .i64 X.lo) (.int .i64 X.hi) (.bool X.live) (.int .i64 X.al))
                  have hv5 := hide (C4.far (c := b9) (unhide hv4) (by omega) (.int .i64 X.lo) (.int .i64 X.hi) (.bool X.live) (.int .i64 X.al))
                  obtain ⟨wz5, hw⟩ : ∃ x, x = (((wz4.setCell ⟨b9, 0, none⟩ (.int .i64 X.lo)).setCell ⟨b9, 1, none⟩ (.int .i64 X.hi)).setCell ⟨b9, 2, none⟩ (.bool X.live)).setCell ⟨b9, 3, none⟩ (.int .i64 X.al) := ⟨_, rfl⟩
                  rw [← hw] at hk5 f9_5 f10_5 hv5 ⊢
                  clear hw
                  have hHeld := unhide hk5
                  refine wpAnyH_ready (rs := [12]) (by kernel_rfl) (by simp) ?_
                  refine AllReadyH.cons (i := 12) (o := { dst := none, op := Op.store 30 (Operand.tmp 13) (Operand.tmp 76), type := 0, pos := _, after := _, guard := none }) rfl (fun K hK => ?_) AllReadyH.nil
                  obtain ⟨⟨c0, c1, c2, c3⟩, c4, c5⟩ := unhide f10_5
                  go_simp
                  refine hK.out _ _ ?_ (fun hHeld => ?_)
                  · exact S8.put (unhide hk5) (unhide g10) _ _ _ _
                  clear hK K c0 c1 c2 c3 c4 c5 hHeld
                  try simp only [Act.put, List.setIfInBounds_toArray, List.set_cons_zero, List.set_cons_succ]
                  have hk6 := hide (S8.put (unhide hk5) (unhide g10) (.int .i64 X.lo) (.int .i64 X.hi) (.bool X.live) (.int .i64 X.al))
                  have f10_6 := hide (C4.put (x' := X.lo) (y' := X.hi) (l' := X.live) (u' := X.al) (unhide f10_5))
                  have f9_6 := hide (C4.far (c := b10) (unhide f9_5) (by omega) (.int .i64 X.lo) (.int .i64 X.hi) (.bool X.live) (.int .i64 X.al))
                  have hv6 := hide (C4.far (c := b10) (unhide hv5) (by omega) (.int .i64 X.lo) (.int .i64 X.hi) (.bool X.live) (.int .i64 X.al))
                  obtain ⟨wz6, hw⟩ : ∃ x, x = (((wz5.setCell ⟨b10, 0, none⟩ (.int .i64 X.lo)).setCell ⟨b10, 1, none⟩ (.int .i64 X.hi)).setCell ⟨b10, 2, none⟩ (.bool X.live)).setCell ⟨b10, 3, none⟩ (.int .i64 X.al) := ⟨_, rfl⟩
                  rw [← hw] at hk6 f9_6 f10_6 hv6 ⊢
                  clear hw
                  have hHeld := unhide hk6
                  refine wpAnyH_done (by kernel_rfl) ?_ _
                  go_wp2_with fail
                  go_meet
                  exact ⟨b9, rfl, unhide f9_6, unhide hv6, unhide hk6⟩
                · have g9 := hide (FB.of (unhide hk2))
                  have f9_3 := hide (C4.new wz2 0 0 false 0 30)
                  have hk3 := hide (S8.alloc (unhide hk2) (Obj.cells #[.int .i64 0, .int .i64 0, .bool false, .int .i64 0] 30))
                  have hv3 := hide (C4.call ((Below.refl _ _).alloc (Nat.le_refl _) (Obj.cells #[.int .i64 0, .int .i64 0, .bool false, .int .i64 0] 30)) (unhide hv2))
                  have f10_3 := hide (C4.call ((Below.refl _ _).alloc (Nat.le_refl _) (Obj.cells #[.int .i64 0, .int .i64 0, .bool false, .int .i64 0] 30)) (unhide f10_2))
                  have lhv_9 : C < wz2.heap.size := (unhide hv2).2.1
                  have l10_9 : b10 < wz2.heap.size := (unhide f10_2).2.1
                  go_simp
                  refine hK.out _ _ (unhide hk3) (fun hHeld => ?_)
                  clear hK K
                  try simp only [Act.put, List.setIfInBounds_toArray, List.set_cons_zero, List.set_cons_succ]
                  clear hHeld
                  generalize hg : wz2.alloc (Obj.cells #[.int .i64 0, .int .i64 0, .bool false, .int .i64 0] 30) = wz3 at hk3 f9_3 hv3 f10_3 ⊢
                  clear hg hk2 hv2 f10_2
                  have hHeld := unhide hk3
                  obtain ⟨b9, hb9⟩ : ∃ b, b = wz2.heap.size := ⟨_, rfl⟩
                  rw [← hb9] at g9 f9_3 lhv_9 l10_9 ⊢
                  clear hb9
                  refine wpAnyH_ready (rs := [5]) (by kernel_rfl) (by simp) ?_
                  refine AllReadyH.cons (i := 5) (o := { dst := some 74, op := Op.call { callee := Callee.value (Operand.func 10), args := #[Operand.tmp 69, Operand.tmp 72, Operand.tmp 73], argTypes := #[2, 25, 25] }, type := 31, pos := _, after := _, guard := none }) rfl (fun K hK => ?_) AllReadyH.nil
                  go_simp
                  refine (op_any k (joinL al ah cl ch) (joinH al ah cl ch) bl bh k0 k4 (unhide HJ).1.1 (unhide HJ).1.2.1 (unhide HI).1.2.2.1 (unhide HI).1.2.2.2 _).mono ?_
                  rintro e wz4 ⟨rfl, hb4⟩
                  rw [← unhide HX]
                  have hk4 := hide (S8.call hb4 (unhide hk3))
                  have hv4 := hide (C4.call hb4 (unhide hv3))
                  have f10_4 := hide (C4.call hb4 (unhide f10_3))
                  have f9_4 := hide (C4.call hb4 (unhide f9_3))
                  clear hb4 hv3 f10_3 f9_3
                  refine hK.out _ _ (unhide hk4) (fun hHeld => ?_)
                  clear hK K
                  try simp only [Act.put, List.setIfInBounds_toArray, List.set_cons_zero, List.set_cons_succ]
                  refine wpAnyH_take (i := 6) (oi := { dst := some 68, op := Op.move (Operand.tmp 74), type := 31, pos := _, after := _, guard := none }) (v := ?_) rfl (by kernel_rfl) (by kernel_rfl) (by kernel_rfl) (fun _ _ _ h => h) (Or.inl ⟨by rfl, ?_⟩) (by assumption) ?_
                  rotate_left
                  · (intro w hSw; (try dsimp only at hSw); go_simp; try with_reducible rfl)
                  try simp only [Act.put, List.setIfInBounds_toArray, List.set_cons_zero, List.set_cons_succ]
                  refine wpAnyH_take (i := 7) (oi := { dst := some 75, op := Op.extract (Operand.tmp 68) 0, type := 30, pos := _, after := _, guard := none }) (v := ?_) rfl (by kernel_rfl) (by kernel_rfl) (by kernel_rfl) (fun _ _ _ h => h) (Or.inl ⟨by rfl, ?_⟩) (by assumption) ?_
                  rotate_left
                  · (intro w hSw; (try dsimp only at hSw); go_simp; try with_reducible rfl)
                  try simp only [Act.put, List.setIfInBounds_toArray, List.set_cons_zero, List.set_cons_succ]
                  refine wpAnyH_take (i := 8) (oi := { dst := some 76, op := Op.extract (Operand.tmp 68) 1, type := 30, pos := _, after := _, guard := none }) (v := ?_) rfl (by kernel_rfl) (by kernel_rfl) (by kernel_rfl) (fun _ _ _ h => h) (Or.inl ⟨by rfl, ?_⟩) (by assumption) ?_
                  rotate_left
                  · (intro w hSw; (try dsimp only at hSw); go_simp; try with_reducible rfl)
                  try simp only [Act.put, List.setIfInBounds_toArray, List.set_cons_zero, List.set_cons_succ]
                  refine wpAnyH_ready (rs := [11]) (by kernel_rfl) (by simp) ?_
                  refine AllReadyH.cons (i := 11) (o := { dst := none, op := Op.store 30 (Operand.tmp 12) (Operand.tmp 75), type := 0, pos := _, after := _, guard := none }) rfl (fun K hK => ?_) AllReadyH.nil
                  obtain ⟨⟨c0, c1, c2, c3⟩, c4, c5⟩ := unhide f9_4
                  go_simp
                  refine hK.out _ _ ?_ (fun hHeld => ?_)
                  · exact S8.put (unhide hk4) (unhide g9) _ _ _ _
                  clear hK K c0 c1 c2 c3 c4 c5 hHeld
                  try simp only [Act.put, List.setIfInBounds_toArray, List.set_cons_zero, List.set_cons_succ]
                  have hk5 := hide (S8.put (unhide hk4) (unhide g9) (.int .i64 X.lo) (.int .i64 X.hi) (.bool X.live) (.int .i64 X.al))
                  have f9_5 := hide (C4.put (x' := X.lo) (y' := X.hi) (l' := X.live) (u' := X.al) (unhide f9_4))
                  have f10_5 := hide (C4.far (c := b9) (unhide f10_4) (by omega) (.int .i64 X.lo) (.int .i64 X.hi) (.bool X.live) (.int .i64 X.al))
                  have hv5 := hide (C4.far (c := b9) (unhide hv4) (by omega) (.int .i64 X.lo) (.int .i64 X.hi) (.bool X.live) (.int .i64 X.al))
                  obtain ⟨wz5, hw⟩ : ∃ x, x = (((wz4.setCell ⟨b9, 0, none⟩ (.int .i64 X.lo)).setCell ⟨b9, 1, none⟩ (.int .i64 X.hi)).setCell ⟨b9, 2, none⟩ (.bool X.live)).setCell ⟨b9, 3, none⟩ (.int .i64 X.al) := ⟨_, rfl⟩
                  rw [← hw] at hk5 f9_5 f10_5 hv5 ⊢
                  clear hw
                  have hHeld := unhide hk5
                  refine wpAnyH_ready (rs := [12]) (by kernel_rfl) (by simp) ?_
                  refine AllReadyH.cons (i := 12) (o := { dst := none, op := Op.store 30 (Operand.tmp 13) (Operand.tmp 76), type := 0, pos := _, after := _, guard := none }) rfl (fun K hK => ?_) AllReadyH.nil
                  obtain ⟨⟨c0, c1, c2, c3⟩, c4, c5⟩ := unhide f10_5
                  go_simp
                  refine hK.out _ _ ?_ (fun hHeld => ?_)
                  · exact S8.put (unhide hk5) (unhide g10) _ _ _ _
                  clear hK K c0 c1 c2 c3 c4 c5 hHeld
                  try simp only [Act.put, List.setIfInBounds_toArray, List.set_cons_zero, List.set_cons_succ]
                  have hk6 := hide (S8.put (unhide hk5) (unhide g10) (.int .i64 X.lo) (.int .i64 X.hi) (.bool X.live) (.int .i64 X.al))
                  have f10_6 := hide (C4.put (x' := X.lo) (y' := X.hi) (l' := X.live) (u' := X.al) (unhide f10_5))
                  have f9_6 := hide (C4.far (c := b10) (unhide f9_5) (by omega) (.int .i64 X.lo) (.int .i64 X.hi) (.bool X.live) (.int .i64 X.al))
                  have hv6 := hide (C4.far (c := b10) (unhide hv5) (by omega) (.int .i64 X.lo) (.int .i64 X.hi) (.bool X.live) (.int .i64 X.al))
                  obtain ⟨wz6, hw⟩ : ∃ x, x = (((wz5.setCell ⟨b10, 0, none⟩ (.int .i64 X.lo)).setCell ⟨b10, 1, none⟩ (.int .i64 X.hi)).setCell ⟨b10, 2, none⟩ (.bool X.live)).setCell ⟨b10, 3, none⟩ (.int .i64 X.al) := ⟨_, rfl⟩
                  rw [← hw] at hk6 f9_6 f10_6 hv6 ⊢
                  clear hw
                  have hHeld := unhide hk6
                  refine wpAnyH_done (by kernel_rfl) ?_ _
                  go_wp2_with fail
                  go_meet
                  exact ⟨b9, rfl, unhide f9_6, unhide hv6, unhide hk6⟩
              · have g9 := hide (FB.of (unhide hk1))
                have f9_2 := hide (C4.new wz1 0 0 false 0 30)
                have hk2 := hide (S8.alloc (unhide hk1) (Obj.cells #[.int .i64 0, .int .i64 0, .bool false, .int .i64 0] 30))
                have hv2 := hide (C4.call ((Below.refl _ _).alloc (Nat.le_refl _) (Obj.cells #[.int .i64 0, .int .i64 0, .bool false, .int .i64 0] 30)) (unhide hv1))
                have f10_2 := hide (C4.call ((Below.refl _ _).alloc (Nat.le_refl _) (Obj.cells #[.int .i64 0, .int .i64 0, .bool false, .int .i64 0] 30)) (unhide f10_1))
                have lhv_9 : C < wz1.heap.size := (unhide hv1).2.1
                have l10_9 : b10 < wz1.heap.size := (unhide f10_1).2.1
                go_simp
                refine hK.out _ _ (unhide hk2) (fun hHeld => ?_)
                clear hK K
                try simp only [Act.put, List.setIfInBounds_toArray, List.set_cons_zero, List.set_cons_succ]
                clear hHeld
                generalize hg : wz1.alloc (Obj.cells #[.int .i64 0, .int .i64 0, .bool false, .int .i64 0] 30) = wz2 at hk2 f9_2 hv2 f10_2 ⊢
                clear hg hk1 hv1 f10_1
                have hHeld := unhide hk2
                obtain ⟨b9, hb9⟩ : ∃ b, b = wz1.heap.size := ⟨_, rfl⟩
                rw [← hb9] at g9 f9_2 lhv_9 l10_9 ⊢
                clear hb9
                refine wpAnyH_ready (rs := [3]) (by kernel_rfl) (by simp) ?_
                refine AllReadyH.cons (i := 3) (o := { dst := some 72, op := Op.call { callee := Callee.value (Operand.func 17), args := #[Operand.tmp 70, Operand.tmp 71], argTypes := #[25, 25] }, type := 25, pos := _, after := _, guard := none }) rfl (fun K hK => ?_) AllReadyH.nil
                go_simp
                refine (sIvJoin_c _ _ _ _ _).mono ?_
                rintro e wz3 ⟨rfl, hb3⟩
                have hk3 := hide (S8.call hb3 (unhide hk2))
                have hv3 := hide (C4.call hb3 (unhide hv2))
                have f10_3 := hide (C4.call hb3 (unhide f10_2))
                have f9_3 := hide (C4.call hb3 (unhide f9_2))
                clear hb3 hv2 f10_2 f9_2
                refine hK.out _ _ (unhide hk3) (fun hHeld => ?_)
                clear hK K
                try simp only [Act.put, List.setIfInBounds_toArray, List.set_cons_zero, List.set_cons_succ]
                refine wpAnyH_ready (rs := [5]) (by kernel_rfl) (by simp) ?_
                refine AllReadyH.cons (i := 5) (o := { dst := some 74, op := Op.call { callee := Callee.value (Operand.func 10), args := #[Operand.tmp 69, Operand.tmp 72, Operand.tmp 73], argTypes := #[2, 25, 25] }, type := 31, pos := _, after := _, guard := none }) rfl (fun K hK => ?_) AllReadyH.nil
                go_simp
                refine (op_any k (joinL al ah cl ch) (joinH al ah cl ch) bl bh k0 k4 (unhide HJ).1.1 (unhide HJ).1.2.1 (unhide HI).1.2.2.1 (unhide HI).1.2.2.2 _).mono ?_
                rintro e wz4 ⟨rfl, hb4⟩
                rw [← unhide HX]
                have hk4 := hide (S8.call hb4 (unhide hk3))
                have hv4 := hide (C4.call hb4 (unhide hv3))
                have f10_4 := hide (C4.call hb4 (unhide f10_3))
                have f9_4 := hide (C4.call hb4 (unhide f9_3))
                clear hb4 hv3 f10_3 f9_3
                refine hK.out _ _ (unhide hk4) (fun hHeld => ?_)
                clear hK K
                try simp only [Act.put, List.setIfInBounds_toArray, List.set_cons_zero, List.set_cons_succ]
                refine wpAnyH_take (i := 6) (oi := { dst := some 68, op := Op.move (Operand.tmp 74), type := 31, pos := _, after := _, guard := none }) (v := ?_) rfl (by kernel_rfl) (by kernel_rfl) (by kernel_rfl) (fun _ _ _ h => h) (Or.inl ⟨by rfl, ?_⟩) (by assumption) ?_
                rotate_left
                · (intro w hSw; (try dsimp only at hSw); go_simp; try with_reducible rfl)
                try simp only [Act.put, List.setIfInBounds_toArray, List.set_cons_zero, List.set_cons_succ]
                refine wpAnyH_take (i := 7) (oi := { dst := some 75, op := Op.extract (Operand.tmp 68) 0, type := 30, pos := _, after := _, guard := none }) (v := ?_) rfl (by kernel_rfl) (by kernel_rfl) (by kernel_rfl) (fun _ _ _ h => h) (Or.inl ⟨by rfl, ?_⟩) (by assumption) ?_
                rotate_left
                · (intro w hSw; (try dsimp only at hSw); go_simp; try with_reducible rfl)
                try simp only [Act.put, List.setIfInBounds_toArray, List.set_cons_zero, List.set_cons_succ]
                refine wpAnyH_take (i := 8) (oi := { dst := some 76, op := Op.extract (Operand.tmp 68) 1, type := 30, pos := _, after := _, guard := none }) (v := ?_) rfl (by kernel_rfl) (by kernel_rfl) (by kernel_rfl) (fun _ _ _ h => h) (Or.inl ⟨by rfl, ?_⟩) (by assumption) ?_
                rotate_left
                · (intro w hSw; (try dsimp only at hSw); go_simp; try with_reducible rfl)
                try simp only [Act.put, List.setIfInBounds_toArray, List.set_cons_zero, List.set_cons_succ]
                refine wpAnyH_ready (rs := [11]) (by kernel_rfl) (by simp) ?_
                refine AllReadyH.cons (i := 11) (o := { dst := none, op := Op.store 30 (Operand.tmp 12) (Operand.tmp 75), type := 0, pos := _, after := _, guard := none }) rfl (fun K hK => ?_) AllReadyH.nil
                obtain ⟨⟨c0, c1, c2, c3⟩, c4, c5⟩ := unhide f9_4
                go_simp
                refine hK.out _ _ ?_ (fun hHeld => ?_)
                · exact S8.put (unhide hk4) (unhide g9) _ _ _ _
                clear hK K c0 c1 c2 c3 c4 c5 hHeld
                try simp only [Act.put, List.setIfInBounds_toArray, List.set_cons_zero, List.set_cons_succ]
                have hk5 := hide (S8.put (unhide hk4) (unhide g9) (.int .i64 X.lo) (.int .i64 X.hi) (.bool X.live) (.int .i64 X.al))
                have f9_5 := hide (C4.put (x' := X.lo) (y' := X.hi) (l' := X.live) (u' := X.al) (unhide f9_4))
                have f10_5 := hide (C4.far (c := b9) (unhide f10_4) (by omega) (.int .i64 X.lo) (.int .i64 X.hi) (.bool X.live) (.int .i64 X.al))
                have hv5 := hide (C4.far (c := b9) (unhide hv4) (by omega) (.int .i64 X.lo) (.int .i64 X.hi) (.bool X.live) (.int .i64 X.al))
                obtain ⟨wz5, hw⟩ : ∃ x, x = (((wz4.setCell ⟨b9, 0, none⟩ (.int .i64 X.lo)).setCell ⟨b9, 1, none⟩ (.int .i64 X.hi)).setCell ⟨b9, 2, none⟩ (.bool X.live)).setCell ⟨b9, 3, none⟩ (.int .i64 X.al) := ⟨_, rfl⟩
                rw [← hw] at hk5 f9_5 f10_5 hv5 ⊢
                clear hw
                have hHeld := unhide hk5
                refine wpAnyH_ready (rs := [12]) (by kernel_rfl) (by simp) ?_
                refine AllReadyH.cons (i := 12) (o := { dst := none, op := Op.store 30 (Operand.tmp 13) (Operand.tmp 76), type := 0, pos := _, after := _, guard := none }) rfl (fun K hK => ?_) AllReadyH.nil
                obtain ⟨⟨c0, c1, c2, c3⟩, c4, c5⟩ := unhide f10_5
                go_simp
                refine hK.out _ _ ?_ (fun hHeld => ?_)
                · exact S8.put (unhide hk5) (unhide g10) _ _ _ _
                clear hK K c0 c1 c2 c3 c4 c5 hHeld
                try simp only [Act.put, List.setIfInBounds_toArray, List.set_cons_zero, List.set_cons_succ]
                have hk6 := hide (S8.put (unhide hk5) (unhide g10) (.int .i64 X.lo) (.int .i64 X.hi) (.bool X.live) (.int .i64 X.al))
                have f10_6 := hide (C4.put (x' := X.lo) (y' := X.hi) (l' := X.live) (u' := X.al) (unhide f10_5))
                have f9_6 := hide (C4.far (c := b10) (unhide f9_5) (by omega) (.int .i64 X.lo) (.int .i64 X.hi) (.bool X.live) (.int .i64 X.al))
                have hv6 := hide (C4.far (c := b10) (unhide hv5) (by omega) (.int .i64 X.lo) (.int .i64 X.hi) (.bool X.live) (.int .i64 X.al))
                obtain ⟨wz6, hw⟩ : ∃ x, x = (((wz5.setCell ⟨b10, 0, none⟩ (.int .i64 X.lo)).setCell ⟨b10, 1, none⟩ (.int .i64 X.hi)).setCell ⟨b10, 2, none⟩ (.bool X.live)).setCell ⟨b10, 3, none⟩ (.int .i64 X.al) := ⟨_, rfl⟩
                rw [← hw] at hk6 f9_6 f10_6 hv6 ⊢
                clear hw
                have hHeld := unhide hk6
                refine wpAnyH_done (by kernel_rfl) ?_ _
                go_wp2_with fail
                go_meet
                exact ⟨b9, rfl, unhide f9_6, unhide hv6, unhide hk6⟩
          case rest =>
          clear P
          obtain ⟨D, rfl, hd, hc, hs8⟩ := hcut
          have HD := hide hd
          have HC := hide hc
          have H8 := hide hs8
          clear hd hc hs8
          obtain ⟨WB, rfl⟩ : ∃ WB : World, WB = wc := ⟨_, rfl⟩
          go_upto_region 10 with fail
          go_cut [14] (fun p wc => ∃ G, p = .pointer (some ⟨G, 0, none⟩) ∧ C4 G U.lo U.hi U.live U.al wc ∧ C4 C V.lo V.hi V.live V.al wc ∧ C4 D X.lo X.hi X.live X.al wc ∧ S8 w' w'.heap.size A E al ah bl bh cl ch dl dh wc)
          case first =>
            have hk0 := hide (S8.drew (unhide H8))
            have hv0 := hide (show C4 C V.lo V.hi V.live V.al WB.drew from unhide HC)
            have hx0 := hide (show C4 D X.lo X.hi X.live X.al WB.drew from unhide HD)
            clear H8 HC HD
            obtain ⟨wz0, hw0⟩ : ∃ x, x = WB.drew := ⟨_, rfl⟩
            rw [← hw0] at hk0 hv0 hx0
            refine wp_region_held_drew (S := S8 w' w'.heap.size A E al ah bl bh cl ch dl dh) (by kernel_rfl) (by rw [← hw0]; exact unhide hk0) (fun hHeld => ?_)
            rw [← hw0] at hHeld ⊢
            clear hw0
            refine wpAnyH_take (i := 0) (oi := { dst := some 78, op := Op.move (Operand.tmp 9), type := 2, pos := _, after := _, guard := none }) (v := ?_) rfl (by kernel_rfl) (by kernel_rfl) (by kernel_rfl) (fun _ _ _ h => h) (Or.inl ⟨by rfl, ?_⟩) (by assumption) ?_
            rotate_left
            · (intro w hSw; (try dsimp only at hSw); go_simp; try with_reducible rfl)
            try simp only [Act.put, List.setIfInBounds_toArray, List.set_cons_zero, List.set_cons_succ]
            refine wpAnyH_take (i := 1) (oi := { dst := some 79, op := Op.load 25 (Operand.tmp 5), type := 25, pos := _, after := _, guard := none }) (v := ?_) rfl (by kernel_rfl) (by kernel_rfl) (by kernel_rfl) (fun _ _ _ h => h) (Or.inl ⟨by rfl, ?_⟩) (by assumption) ?_
            rotate_left
            · (intro w hSw; (try dsimp only at hSw); go_simp; try with_reducible rfl)
            try simp only [Act.put, List.setIfInBounds_toArray, List.set_cons_zero, List.set_cons_succ]
            refine wpAnyH_take (i := 2) (oi := { dst := some 80, op := Op.load 25 (Operand.tmp 6), type := 25, pos := _, after := _, guard := none }) (v := ?_) rfl (by kernel_rfl) (by kernel_rfl) (by kernel_rfl) (fun _ _ _ h => h) (Or.inl ⟨by rfl, ?_⟩) (by assumption) ?_
            rotate_left
            · (intro w hSw; (try dsimp only at hSw); go_simp; try with_reducible rfl)
            try simp only [Act.put, List.setIfInBounds_toArray, List.set_cons_zero, List.set_cons_succ]
            refine wpAnyH_take (i := 3) (oi := { dst := some 81, op := Op.load 25 (Operand.tmp 8), type := 25, pos := _, after := _, guard := none }) (v := ?_) rfl (by kernel_rfl) (by kernel_rfl) (by kernel_rfl) (fun _ _ _ h => h) (Or.inl ⟨by rfl, ?_⟩) (by assumption) ?_
            rotate_left
            · (intro w hSw; (try dsimp only at hSw); go_simp; try with_reducible rfl)
            try simp only [Act.put, List.setIfInBounds_toArray, List.set_cons_zero, List.set_cons_succ]
            refine wpAnyH_ready (rs := [4, 9, 10]) (by kernel_rfl) (by simp) ?_
            refine AllReadyH.cons (i := 4) (o := { dst := some 82, op := Op.call { callee := Callee.value (Operand.func 17), args := #[Operand.tmp 80, Operand.tmp 81], argTypes := #[25, 25] }, type := 25, pos := _, after := _, guard := none }) rfl (fun K hK => ?_) (AllReadyH.cons (i := 9) (o := { dst := some 14, op := Op.alloc 30, type := 0, pos := _, after := _, guard := none }) rfl (fun K hK => ?_) (AllReadyH.cons (i := 10) (o := { dst := some 15, op := Op.alloc 30, type := 0, pos := _, after := _, guard := none }) rfl (fun K hK => ?_) AllReadyH.nil))
            · go_simp
              refine (sIvJoin_c _ _ _ _ _).mono ?_
              rintro e wz1 ⟨rfl, hb1⟩
              have hk1 := hide (S8.call hb1 (unhide hk0))
              have hv1 := hide (C4.call hb1 (unhide hv0))
              have hx1 := hide (C4.call hb1 (unhide hx0))
              clear hb1 hv0 hx0
              refine hK.out _ _ (unhide hk1) (fun hHeld => ?_)
              clear hK K
              try simp only [Act.put, List.setIfInBounds_toArray, List.set_cons_zero, List.set_cons_succ]
              refine wpAnyH_ready (rs := [5, 9, 10]) (by kernel_rfl) (by simp) ?_
              refine AllReadyH.cons (i := 5) (o := { dst := some 83, op := Op.call { callee := Callee.value (Operand.func 10), args := #[Operand.tmp 78, Operand.tmp 79, Operand.tmp 82], argTypes := #[2, 25, 25] }, type := 31, pos := _, after := _, guard := none }) rfl (fun K hK => ?_) (AllReadyH.cons (i := 9) (o := { dst := some 14, op := Op.alloc 30, type := 0, pos := _, after := _, guard := none }) rfl (fun K hK => ?_) (AllReadyH.cons (i := 10) (o := { dst := some 15, op := Op.alloc 30, type := 0, pos := _, after := _, guard := none }) rfl (fun K hK => ?_) AllReadyH.nil))
              · go_simp
                refine (op_any k al ah (joinL bl bh dl dh) (joinH bl bh dl dh) k0 k4 (unhide HI).1.1 (unhide HI).1.2.1 (unhide HJ).2.1 (unhide HJ).2.2.1 _).mono ?_
                rintro e wz2 ⟨rfl, hb2⟩
                rw [← unhide HU]
                have hk2 := hide (S8.call hb2 (unhide hk1))
                have hv2 := hide (C4.call hb2 (unhide hv1))
                have hx2 := hide (C4.call hb2 (unhide hx1))
                clear hb2 hv1 hx1
                refine hK.out _ _ (unhide hk2) (fun hHeld => ?_)
                clear hK K
                try simp only [Act.put, List.setIfInBounds_toArray, List.set_cons_zero, List.set_cons_succ]
                refine wpAnyH_take (i := 6) (oi := { dst := some 77, op := Op.move (Operand.tmp 83), type := 31, pos := _, after := _, guard := none }) (v := ?_) rfl (by kernel_rfl) (by kernel_rfl) (by kernel_rfl) (fun _ _ _ h => h) (Or.inl ⟨by rfl, ?_⟩) (by assumption) ?_
                rotate_left
                · (intro w hSw; (try dsimp only at hSw); go_simp; try with_reducible rfl)
                try simp only [Act.put, List.setIfInBounds_toArray, List.set_cons_zero, List.set_cons_succ]
                refine wpAnyH_take (i := 7) (oi := { dst := some 84, op := Op.extract (Operand.tmp 77) 0, type := 30, pos := _, after := _, guard := none }) (v := ?_) rfl (by kernel_rfl) (by kernel_rfl) (by kernel_rfl) (fun _ _ _ h => h) (Or.inl ⟨by rfl, ?_⟩) (by assumption) ?_
                rotate_left
                · (intro w hSw; (try dsimp only at hSw); go_simp; try with_reducible rfl)
                try simp only [Act.put, List.setIfInBounds_toArray, List.set_cons_zero, List.set_cons_succ]
                refine wpAnyH_take (i := 8) (oi := { dst := some 85, op := Op.extract (Operand.tmp 77) 1, type := 30, pos := _, after := _, guard := none }) (v := ?_) rfl (by kernel_rfl) (by kernel_rfl) (by kernel_rfl) (fun _ _ _ h => h) (Or.inl ⟨by rfl, ?_⟩) (by assumption) ?_
                rotate_left
                · (intro w hSw; (try dsimp only at hSw); go_simp; try with_reducible rfl)
                try simp only [Act.put, List.setIfInBounds_toArray, List.set_cons_zero, List.set_cons_succ]
                refine wpAnyH_ready (rs := [9, 10]) (by kernel_rfl) (by simp) ?_
                refine AllReadyH.cons (i := 9) (o := { dst := some 14, op := Op.alloc 30, type := 0, pos := _, after := _, guard := none }) rfl (fun K hK => ?_) (AllReadyH.cons (i := 10) (o := { dst := some 15, op := Op.alloc 30, type := 0, pos := _, after := _, guard := none }) rfl (fun K hK => ?_) AllReadyH.nil)
                · have g9 := hide (FB.of (unhide hk2))
                  have f9_3 := hide (C4.new wz2 0 0 false 0 30)
                  have hk3 := hide (S8.alloc (unhide hk2) (Obj.cells #[.int .i64 0, .int .i64 0, .bool false, .int .i64 0] 30))
                  have hv3 := hide (C4.call ((Below.refl _ _).alloc (Nat.le_refl _) (Obj.cells #[.int .i64 0, .int .i64 0, .bool false, .int .i64 0] 30)) (unhide hv2))
                  have hx3 := hide (C4.call ((Below.refl _ _).alloc (Nat.le_refl _) (Obj.cells #[.int .i64 0, .int .i64 0, .bool false, .int .i64 0] 30)) (unhide hx2))
                  have lhv_9 : C < wz2.heap.size := (unhide hv2).2.1
                  have lhx_9 : D < wz2.heap.size := (unhide hx2).2.1
                  go_simp
                  refine hK.out _ _ (unhide hk3) (fun hHeld => ?_)
                  clear hK K
                  try simp only [Act.put, List.setIfInBounds_toArray, List.set_cons_zero, List.set_cons_succ]
                  clear hHeld
                  generalize hg : wz2.alloc (Obj.cells #[.int .i64 0, .int .i64 0, .bool false, .int .i64 0] 30) = wz3 at hk3 f9_3 hv3 hx3 ⊢
                  clear hg hk2 hv2 hx2
                  have hHeld := unhide hk3
                  obtain ⟨b9, hb9⟩ : ∃ b, b = wz2.heap.size := ⟨_, rfl⟩
                  rw [← hb9] at g9 f9_3 lhv_9 lhx_9 ⊢
                  clear hb9
                  refine wpAnyH_ready (rs := [10]) (by kernel_rfl) (by simp) ?_
                  refine AllReadyH.cons (i := 10) (o := { dst := some 15, op := Op.alloc 30, type := 0, pos := _, after := _, guard := none }) rfl (fun K hK => ?_) AllReadyH.nil
                  have g10 := hide (FB.of (unhide hk3))
                  have f10_4 := hide (C4.new wz3 0 0 false 0 30)
                  have hk4 := hide (S8.alloc (unhide hk3) (Obj.cells #[.int .i64 0, .int .i64 0, .bool false, .int .i64 0] 30))
                  have hv4 := hide (C4.call ((Below.refl _ _).alloc (Nat.le_refl _) (Obj.cells #[.int .i64 0, .int .i64 0, .bool false, .int .i64 0] 30)) (unhide hv3))
                  have hx4 := hide (C4.call ((Below.refl _ _).alloc (Nat.le_refl _) (Obj.cells #[.int .i64 0, .int .i64 0, .bool false, .int .i64 0] 30)) (unhide hx3))
                  have f9_4 := hide (C4.call ((Below.refl _ _).alloc (Nat.le_refl _) (Obj.cells #[.int .i64 0, .int .i64 0, .bool false, .int .i64 0] 30)) (unhide f9_3))
                  have lhv_10 : C < wz3.heap.size := (unhide hv3).2.1
                  have lhx_10 : D < wz3.heap.size := (unhide hx3).2.1
                  have l9_10 : b9 < wz3.heap.size := (unhide f9_3).2.1
                  go_simp
                  refine hK.out _ _ (unhide hk4) (fun hHeld => ?_)
                  clear hK K
                  try simp only [Act.put, List.setIfInBounds_toArray, List.set_cons_zero, List.set_cons_succ]
                  clear hHeld
                  generalize hg : wz3.alloc (Obj.cells #[.int .i64 0, .int .i64 0, .bool false, .int .i64 0] 30) = wz4 at hk4 f10_4 hv4 hx4 f9_4 ⊢
                  clear hg hk3 hv3 hx3 f9_3
                  have hHeld := unhide hk4
                  obtain ⟨b10, hb10⟩ : ∃ b, b = wz3.heap.size := ⟨_, rfl⟩
                  rw [← hb10] at g10 f10_4 lhv_10 lhx_10 l9_10 ⊢
                  clear hb10
                  refine wpAnyH_ready (rs := [11]) (by kernel_rfl) (by simp) ?_
                  refine AllReadyH.cons (i := 11) (o := { dst := none, op := Op.store 30 (Operand.tmp 14) (Operand.tmp 84), type := 0, pos := _, after := _, guard := none }) rfl (fun K hK => ?_) AllReadyH.nil
                  obtain ⟨⟨c0, c1, c2, c3⟩, c4, c5⟩ := unhide f9_4
                  go_simp
                  refine hK.out _ _ ?_ (fun hHeld => ?_)
                  · exact S8.put (unhide hk4) (unhide g9) _ _ _ _
                  clear hK K c0 c1 c2 c3 c4 c5 hHeld
                  try simp only [Act.put, List.setIfInBounds_toArray, List.set_cons_zero, List.set_cons_succ]
                  have hk5 := hide (S8.put (unhide hk4) (unhide g9) (.int .i64 U.lo) (.int .i64 U.hi) (.bool U.live) (.int .i64 U.al))
                  have f9_5 := hide (C4.put (x' := U.lo) (y' := U.hi) (l' := U.live) (u' := U.al) (unhide f9_4))
                  have f10_5 := hide (C4.far (c := b9) (unhide f10_4) (by omega) (.int .i64 U.lo) (.int .i64 U.hi) (.bool U.live) (.int .i64 U.al))
                  have hv5 := hide (C4.far (c := b9) (unhide hv4) (by omega) (.int .i64 U.lo) (.int .i64 U.hi) (.bool U.live) (.int .i64 U.al))
                  have hx5 := hide (C4.far (c := b9) (unhide hx4) (by omega) (.int .i64 U.lo) (.int .i64 U.hi) (.bool U.live) (.int .i64 U.al))
                  obtain ⟨wz5, hw⟩ : ∃ x, x = (((wz4.setCell ⟨b9, 0, none⟩ (.int .i64 U.lo)).setCell ⟨b9, 1, none⟩ (.int .i64 U.hi)).setCell ⟨b9, 2, none⟩ (.bool U.live)).setCell ⟨b9, 3, none⟩ (.int .i64 U.al) := ⟨_, rfl⟩
                  rw [← hw] at hk5 f9_5 f10_5 hv5 hx5 ⊢
                  clear hw
                  have hHeld := unhide hk5
                  refine wpAnyH_ready (rs := [12]) (by kernel_rfl) (by simp) ?_
                  refine AllReadyH.cons (i := 12) (o := { dst := none, op := Op.store 30 (Operand.tmp 15) (Operand.tmp 85), type := 0, pos := _, after := _, guard := none }) rfl (fun K hK => ?_) AllReadyH.nil
                  obtain ⟨⟨c0, c1, c2, c3⟩, c4, c5⟩ := unhide f10_5
                  go_simp
                  refine hK.out _ _ ?_ (fun hHeld => ?_)
                  · exact S8.put (unhide hk5) (unhide g10) _ _ _ _
                  clear hK K c0 c1 c2 c3 c4 c5 hHeld
                  try simp only [Act.put, List.setIfInBounds_toArray, List.set_cons_zero, List.set_cons_succ]
                  have hk6 := hide (S8.put (unhide hk5) (unhide g10) (.int .i64 U.lo) (.int .i64 U.hi) (.bool U.live) (.int .i64 U.al))
                  have f10_6 := hide (C4.put (x' := U.lo) (y' := U.hi) (l' := U.live) (u' := U.al) (unhide f10_5))
                  have f9_6 := hide (C4.far (c := b10) (unhide f9_5) (by omega) (.int .i64 U.lo) (.int .i64 U.hi) (.bool U.live) (.int .i64 U.al))
                  have hv6 := hide (C4.far (c := b10) (unhide hv5) (by omega) (.int .i64 U.lo) (.int .i64 U.hi) (.bool U.live) (.int .i64 U.al))
                  have hx6 := hide (C4.far (c := b10) (unhide hx5) (by omega) (.int .i64 U.lo) (.int .i64 U.hi) (.bool U.live) (.int .i64 U.al))
                  obtain ⟨wz6, hw⟩ : ∃ x, x = (((wz5.setCell ⟨b10, 0, none⟩ (.int .i64 U.lo)).setCell ⟨b10, 1, none⟩ (.int .i64 U.hi)).setCell ⟨b10, 2, none⟩ (.bool U.live)).setCell ⟨b10, 3, none⟩ (.int .i64 U.al) := ⟨_, rfl⟩
                  rw [← hw] at hk6 f9_6 f10_6 hv6 hx6 ⊢
                  clear hw
                  have hHeld := unhide hk6
                  refine wpAnyH_done (by kernel_rfl) ?_ _
                  go_wp2_with fail
                  go_meet
                  exact ⟨b9, rfl, unhide f9_6, unhide hv6, unhide hx6, unhide hk6⟩
                · have g10 := hide (FB.of (unhide hk2))
                  have f10_3 := hide (C4.new wz2 0 0 false 0 30)
                  have hk3 := hide (S8.alloc (unhide hk2) (Obj.cells #[.int .i64 0, .int .i64 0, .bool false, .int .i64 0] 30))
                  have hv3 := hide (C4.call ((Below.refl _ _).alloc (Nat.le_refl _) (Obj.cells #[.int .i64 0, .int .i64 0, .bool false, .int .i64 0] 30)) (unhide hv2))
                  have hx3 := hide (C4.call ((Below.refl _ _).alloc (Nat.le_refl _) (Obj.cells #[.int .i64 0, .int .i64 0, .bool false, .int .i64 0] 30)) (unhide hx2))
                  have lhv_10 : C < wz2.heap.size := (unhide hv2).2.1
                  have lhx_10 : D < wz2.heap.size := (unhide hx2).2.1
                  go_simp
                  refine hK.out _ _ (unhide hk3) (fun hHeld => ?_)
                  clear hK K
                  try simp only [Act.put, List.setIfInBounds_toArray, List.set_cons_zero, List.set_cons_succ]
                  clear hHeld
                  generalize hg : wz2.alloc (Obj.cells #[.int .i64 0, .int .i64 0, .bool false, .int .i64 0] 30) = wz3 at hk3 f10_3 hv3 hx3 ⊢
                  clear hg hk2 hv2 hx2
                  have hHeld := unhide hk3
                  obtain ⟨b10, hb10⟩ : ∃ b, b = wz2.heap.size := ⟨_, rfl⟩
                  rw [← hb10] at g10 f10_3 lhv_10 lhx_10 ⊢
                  clear hb10
                  refine wpAnyH_ready (rs := [9]) (by kernel_rfl) (by simp) ?_
                  refine AllReadyH.cons (i := 9) (o := { dst := some 14, op := Op.alloc 30, type := 0, pos := _, after := _, guard := none }) rfl (fun K hK => ?_) AllReadyH.nil
                  have g9 := hide (FB.of (unhide hk3))
                  have f9_4 := hide (C4.new wz3 0 0 false 0 30)
                  have hk4 := hide (S8.alloc (unhide hk3) (Obj.cells #[.int .i64 0, .int .i64 0, .bool false, .int .i64 0] 30))
                  have hv4 := hide (C4.call ((Below.refl _ _).alloc (Nat.le_refl _) (Obj.cells #[.int .i64 0, .int .i64 0, .bool false, .int .i64 0] 30)) (unhide hv3))
                  have hx4 := hide (C4.call ((Below.refl _ _).alloc (Nat.le_refl _) (Obj.cells #[.int .i64 0, .int .i64 0, .bool false, .int .i64 0] 30)) (unhide hx3))
                  have f10_4 := hide (C4.call ((Below.refl _ _).alloc (Nat.le_refl _) (Obj.cells #[.int .i64 0, .int .i64 0, .bool false, .int .i64 0] 30)) (unhide f10_3))
                  have lhv_9 : C < wz3.heap.size := (unhide hv3).2.1
                  have lhx_9 : D < wz3.heap.size := (unhide hx3).2.1
                  have l10_9 : b10 < wz3.heap.size := (unhide f10_3).2.1
                  go_simp
                  refine hK.out _ _ (unhide hk4) (fun hHeld => ?_)
                  clear hK K
                  try simp only [Act.put, List.setIfInBounds_toArray, List.set_cons_zero, List.set_cons_succ]
                  clear hHeld
                  generalize hg : wz3.alloc (Obj.cells #[.int .i64 0, .int .i64 0, .bool false, .int .i64 0] 30) = wz4 at hk4 f9_4 hv4 hx4 f10_4 ⊢
                  clear hg hk3 hv3 hx3 f10_3
                  have hHeld := unhide hk4
                  obtain ⟨b9, hb9⟩ : ∃ b, b = wz3.heap.size := ⟨_, rfl⟩
                  rw [← hb9] at g9 f9_4 lhv_9 lhx_9 l10_9 ⊢
                  clear hb9
                  refine wpAnyH_ready (rs := [11]) (by kernel_rfl) (by simp) ?_
                  refine AllReadyH.cons (i := 11) (o := { dst := none, op := Op.store 30 (Operand.tmp 14) (Operand.tmp 84), type := 0, pos := _, after := _, guard := none }) rfl (fun K hK => ?_) AllReadyH.nil
                  obtain ⟨⟨c0, c1, c2, c3⟩, c4, c5⟩ := unhide f9_4
                  go_simp
                  refine hK.out _ _ ?_ (fun hHeld => ?_)
                  · exact S8.put (unhide hk4) (unhide g9) _ _ _ _
                  clear hK K c0 c1 c2 c3 c4 c5 hHeld
                  try simp only [Act.put, List.setIfInBounds_toArray, List.set_cons_zero, List.set_cons_succ]
                  have hk5 := hide (S8.put (unhide hk4) (unhide g9) (.int .i64 U.lo) (.int .i64 U.hi) (.bool U.live) (.int .i64 U.al))
                  have f9_5 := hide (C4.put (x' := U.lo) (y' := U.hi) (l' := U.live) (u' := U.al) (unhide f9_4))
                  have f10_5 := hide (C4.far (c := b9) (unhide f10_4) (by omega) (.int .i64 U.lo) (.int .i64 U.hi) (.bool U.live) (.int .i64 U.al))
                  have hv5 := hide (C4.far (c := b9) (unhide hv4) (by omega) (.int .i64 U.lo) (.int .i64 U.hi) (.bool U.live) (.int .i64 U.al))
                  have hx5 := hide (C4.far (c := b9) (unhide hx4) (by omega) (.int .i64 U.lo) (.int .i64 U.hi) (.bool U.live) (.int .i64 U.al))
                  obtain ⟨wz5, hw⟩ : ∃ x, x = (((wz4.setCell ⟨b9, 0, none⟩ (.int .i64 U.lo)).setCell ⟨b9, 1, none⟩ (.int .i64 U.hi)).setCell ⟨b9, 2, none⟩ (.bool U.live)).setCell ⟨b9, 3, none⟩ (.int .i64 U.al) := ⟨_, rfl⟩
                  rw [← hw] at hk5 f9_5 f10_5 hv5 hx5 ⊢
                  clear hw
                  have hHeld := unhide hk5
                  refine wpAnyH_ready (rs := [12]) (by kernel_rfl) (by simp) ?_
                  refine AllReadyH.cons (i := 12) (o := { dst := none, op := Op.store 30 (Operand.tmp 15) (Operand.tmp 85), type := 0, pos := _, after := _, guard := none }) rfl (fun K hK => ?_) AllReadyH.nil
                  obtain ⟨⟨c0, c1, c2, c3⟩, c4, c5⟩ := unhide f10_5
                  go_simp
                  refine hK.out _ _ ?_ (fun hHeld => ?_)
                  · exact S8.put (unhide hk5) (unhide g10) _ _ _ _
                  clear hK K c0 c1 c2 c3 c4 c5 hHeld
                  try simp only [Act.put, List.setIfInBounds_toArray, List.set_cons_zero, List.set_cons_succ]
                  have hk6 := hide (S8.put (unhide hk5) (unhide g10) (.int .i64 U.lo) (.int .i64 U.hi) (.bool U.live) (.int .i64 U.al))
                  have f10_6 := hide (C4.put (x' := U.lo) (y' := U.hi) (l' := U.live) (u' := U.al) (unhide f10_5))
                  have f9_6 := hide (C4.far (c := b10) (unhide f9_5) (by omega) (.int .i64 U.lo) (.int .i64 U.hi) (.bool U.live) (.int .i64 U.al))
                  have hv6 := hide (C4.far (c := b10) (unhide hv5) (by omega) (.int .i64 U.lo) (.int .i64 U.hi) (.bool U.live) (.int .i64 U.al))
                  have hx6 := hide (C4.far (c := b10) (unhide hx5) (by omega) (.int .i64 U.lo) (.int .i64 U.hi) (.bool U.live) (.int .i64 U.al))
                  obtain ⟨wz6, hw⟩ : ∃ x, x = (((wz5.setCell ⟨b10, 0, none⟩ (.int .i64 U.lo)).setCell ⟨b10, 1, none⟩ (.int .i64 U.hi)).setCell ⟨b10, 2, none⟩ (.bool U.live)).setCell ⟨b10, 3, none⟩ (.int .i64 U.al) := ⟨_, rfl⟩
                  rw [← hw] at hk6 f9_6 f10_6 hv6 hx6 ⊢
                  clear hw
                  have hHeld := unhide hk6
                  refine wpAnyH_done (by kernel_rfl) ?_ _
                  go_wp2_with fail
                  go_meet
                  exact ⟨b9, rfl, unhide f9_6, unhide hv6, unhide hx6, unhide hk6⟩
              · have g9 := hide (FB.of (unhide hk1))
                have f9_2 := hide (C4.new wz1 0 0 false 0 30)
                have hk2 := hide (S8.alloc (unhide hk1) (Obj.cells #[.int .i64 0, .int .i64 0, .bool false, .int .i64 0] 30))
                have hv2 := hide (C4.call ((Below.refl _ _).alloc (Nat.le_refl _) (Obj.cells #[.int .i64 0, .int .i64 0, .bool false, .int .i64 0] 30)) (unhide hv1))
                have hx2 := hide (C4.call ((Below.refl _ _).alloc (Nat.le_refl _) (Obj.cells #[.int .i64 0, .int .i64 0, .bool false, .int .i64 0] 30)) (unhide hx1))
                have lhv_9 : C < wz1.heap.size := (unhide hv1).2.1
                have lhx_9 : D < wz1.heap.size := (unhide hx1).2.1
                go_simp
                refine hK.out _ _ (unhide hk2) (fun hHeld => ?_)
                clear hK K
                try simp only [Act.put, List.setIfInBounds_toArray, List.set_cons_zero, List.set_cons_succ]
                clear hHeld
                generalize hg : wz1.alloc (Obj.cells #[.int .i64 0, .int .i64 0, .bool false, .int .i64 0] 30) = wz2 at hk2 f9_2 hv2 hx2 ⊢
                clear hg hk1 hv1 hx1
                have hHeld := unhide hk2
                obtain ⟨b9, hb9⟩ : ∃ b, b = wz1.heap.size := ⟨_, rfl⟩
                rw [← hb9] at g9 f9_2 lhv_9 lhx_9 ⊢
                clear hb9
                refine wpAnyH_ready (rs := [5, 10]) (by kernel_rfl) (by simp) ?_
                refine AllReadyH.cons (i := 5) (o := { dst := some 83, op := Op.call { callee := Callee.value (Operand.func 10), args := #[Operand.tmp 78, Operand.tmp 79, Operand.tmp 82], argTypes := #[2, 25, 25] }, type := 31, pos := _, after := _, guard := none }) rfl (fun K hK => ?_) (AllReadyH.cons (i := 10) (o := { dst := some 15, op := Op.alloc 30, type := 0, pos := _, after := _, guard := none }) rfl (fun K hK => ?_) AllReadyH.nil)
                · go_simp
                  refine (op_any k al ah (joinL bl bh dl dh) (joinH bl bh dl dh) k0 k4 (unhide HI).1.1 (unhide HI).1.2.1 (unhide HJ).2.1 (unhide HJ).2.2.1 _).mono ?_
                  rintro e wz3 ⟨rfl, hb3⟩
                  rw [← unhide HU]
                  have hk3 := hide (S8.call hb3 (unhide hk2))
                  have hv3 := hide (C4.call hb3 (unhide hv2))
                  have hx3 := hide (C4.call hb3 (unhide hx2))
                  have f9_3 := hide (C4.call hb3 (unhide f9_2))
                  clear hb3 hv2 hx2 f9_2
                  refine hK.out _ _ (unhide hk3) (fun hHeld => ?_)
                  clear hK K
                  try simp only [Act.put, List.setIfInBounds_toArray, List.set_cons_zero, List.set_cons_succ]
                  refine wpAnyH_take (i := 6) (oi := { dst := some 77, op := Op.move (Operand.tmp 83), type := 31, pos := _, after := _, guard := none }) (v := ?_) rfl (by kernel_rfl) (by kernel_rfl) (by kernel_rfl) (fun _ _ _ h => h) (Or.inl ⟨by rfl, ?_⟩) (by assumption) ?_
                  rotate_left
                  · (intro w hSw; (try dsimp only at hSw); go_simp; try with_reducible rfl)
                  try simp only [Act.put, List.setIfInBounds_toArray, List.set_cons_zero, List.set_cons_succ]
                  refine wpAnyH_take (i := 7) (oi := { dst := some 84, op := Op.extract (Operand.tmp 77) 0, type := 30, pos := _, after := _, guard := none }) (v := ?_) rfl (by kernel_rfl) (by kernel_rfl) (by kernel_rfl) (fun _ _ _ h => h) (Or.inl ⟨by rfl, ?_⟩) (by assumption) ?_
                  rotate_left
                  · (intro w hSw; (try dsimp only at hSw); go_simp; try with_reducible rfl)
                  try simp only [Act.put, List.setIfInBounds_toArray, List.set_cons_zero, List.set_cons_succ]
                  refine wpAnyH_take (i := 8) (oi := { dst := some 85, op := Op.extract (Operand.tmp 77) 1, type := 30, pos := _, after := _, guard := none }) (v := ?_) rfl (by kernel_rfl) (by kernel_rfl) (by kernel_rfl) (fun _ _ _ h => h) (Or.inl ⟨by rfl, ?_⟩) (by assumption) ?_
                  rotate_left
                  · (intro w hSw; (try dsimp only at hSw); go_simp; try with_reducible rfl)
                  try simp only [Act.put, List.setIfInBounds_toArray, List.set_cons_zero, List.set_cons_succ]
                  refine wpAnyH_ready (rs := [10]) (by kernel_rfl) (by simp) ?_
                  refine AllReadyH.cons (i := 10) (o := { dst := some 15, op := Op.alloc 30, type := 0, pos := _, after := _, guard := none }) rfl (fun K hK => ?_) AllReadyH.nil
                  have g10 := hide (FB.of (unhide hk3))
                  have f10_4 := hide (C4.new wz3 0 0 false 0 30)
                  have hk4 := hide (S8.alloc (unhide hk3) (Obj.cells #[.int .i64 0, .int .i64 0, .bool false, .int .i64 0] 30))
                  have hv4 := hide (C4.call ((Below.refl _ _).alloc (Nat.le_refl _) (Obj.cells #[.int .i64 0, .int .i64 0, .bool false, .int .i64 0] 30)) (unhide hv3))
                  have hx4 := hide (C4.call ((Below.refl _ _).alloc (Nat.le_refl _) (Obj.cells #[.int .i64 0, .int .i64 0, .bool false, .int .i64 0] 30)) (unhide hx3))
                  have f9_4 := hide (C4.call ((Below.refl _ _).alloc (Nat.le_refl _) (Obj.cells #[.int .i64 0, .int .i64 0, .bool false, .int .i64 0] 30)) (unhide f9_3))
                  have lhv_10 : C < wz3.heap.size := (unhide hv3).2.1
                  have lhx_10 : D < wz3.heap.size := (unhide hx3).2.1
                  have l9_10 : b9 < wz3.heap.size := (unhide f9_3).2.1
                  go_simp
                  refine hK.out _ _ (unhide hk4) (fun hHeld => ?_)
                  clear hK K
                  try simp only [Act.put, List.setIfInBounds_toArray, List.set_cons_zero, List.set_cons_succ]
                  clear hHeld
                  generalize hg : wz3.alloc (Obj.cells #[.int .i64 0, .int .i64 0, .bool false, .int .i64 0] 30) = wz4 at hk4 f10_4 hv4 hx4 f9_4 ⊢
                  clear hg hk3 hv3 hx3 f9_3
                  have hHeld := unhide hk4
                  obtain ⟨b10, hb10⟩ : ∃ b, b = wz3.heap.size := ⟨_, rfl⟩
                  rw [← hb10] at g10 f10_4 lhv_10 lhx_10 l9_10 ⊢
                  clear hb10
                  refine wpAnyH_ready (rs := [11]) (by kernel_rfl) (by simp) ?_
                  refine AllReadyH.cons (i := 11) (o := { dst := none, op := Op.store 30 (Operand.tmp 14) (Operand.tmp 84), type := 0, pos := _, after := _, guard := none }) rfl (fun K hK => ?_) AllReadyH.nil
                  obtain ⟨⟨c0, c1, c2, c3⟩, c4, c5⟩ := unhide f9_4
                  go_simp
                  refine hK.out _ _ ?_ (fun hHeld => ?_)
                  · exact S8.put (unhide hk4) (unhide g9) _ _ _ _
                  clear hK K c0 c1 c2 c3 c4 c5 hHeld
                  try simp only [Act.put, List.setIfInBounds_toArray, List.set_cons_zero, List.set_cons_succ]
                  have hk5 := hide (S8.put (unhide hk4) (unhide g9) (.int .i64 U.lo) (.int .i64 U.hi) (.bool U.live) (.int .i64 U.al))
                  have f9_5 := hide (C4.put (x' := U.lo) (y' := U.hi) (l' := U.live) (u' := U.al) (unhide f9_4))
                  have f10_5 := hide (C4.far (c := b9) (unhide f10_4) (by omega) (.int .i64 U.lo) (.int .i64 U.hi) (.bool U.live) (.int .i64 U.al))
                  have hv5 := hide (C4.far (c := b9) (unhide hv4) (by omega) (.int .i64 U.lo) (.int .i64 U.hi) (.bool U.live) (.int .i64 U.al))
                  have hx5 := hide (C4.far (c := b9) (unhide hx4) (by omega) (.int .i64 U.lo) (.int .i64 U.hi) (.bool U.live) (.int .i64 U.al))
                  obtain ⟨wz5, hw⟩ : ∃ x, x = (((wz4.setCell ⟨b9, 0, none⟩ (.int .i64 U.lo)).setCell ⟨b9, 1, none⟩ (.int .i64 U.hi)).setCell ⟨b9, 2, none⟩ (.bool U.live)).setCell ⟨b9, 3, none⟩ (.int .i64 U.al) := ⟨_, rfl⟩
                  rw [← hw] at hk5 f9_5 f10_5 hv5 hx5 ⊢
                  clear hw
                  have hHeld := unhide hk5
                  refine wpAnyH_ready (rs := [12]) (by kernel_rfl) (by simp) ?_
                  refine AllReadyH.cons (i := 12) (o := { dst := none, op := Op.store 30 (Operand.tmp 15) (Operand.tmp 85), type := 0, pos := _, after := _, guard := none }) rfl (fun K hK => ?_) AllReadyH.nil
                  obtain ⟨⟨c0, c1, c2, c3⟩, c4, c5⟩ := unhide f10_5
                  go_simp
                  refine hK.out _ _ ?_ (fun hHeld => ?_)
                  · exact S8.put (unhide hk5) (unhide g10) _ _ _ _
                  clear hK K c0 c1 c2 c3 c4 c5 hHeld
                  try simp only [Act.put, List.setIfInBounds_toArray, List.set_cons_zero, List.set_cons_succ]
                  have hk6 := hide (S8.put (unhide hk5) (unhide g10) (.int .i64 U.lo) (.int .i64 U.hi) (.bool U.live) (.int .i64 U.al))
                  have f10_6 := hide (C4.put (x' := U.lo) (y' := U.hi) (l' := U.live) (u' := U.al) (unhide f10_5))
                  have f9_6 := hide (C4.far (c := b10) (unhide f9_5) (by omega) (.int .i64 U.lo) (.int .i64 U.hi) (.bool U.live) (.int .i64 U.al))
                  have hv6 := hide (C4.far (c := b10) (unhide hv5) (by omega) (.int .i64 U.lo) (.int .i64 U.hi) (.bool U.live) (.int .i64 U.al))
                  have hx6 := hide (C4.far (c := b10) (unhide hx5) (by omega) (.int .i64 U.lo) (.int .i64 U.hi) (.bool U.live) (.int .i64 U.al))
                  obtain ⟨wz6, hw⟩ : ∃ x, x = (((wz5.setCell ⟨b10, 0, none⟩ (.int .i64 U.lo)).setCell ⟨b10, 1, none⟩ (.int .i64 U.hi)).setCell ⟨b10, 2, none⟩ (.bool U.live)).setCell ⟨b10, 3, none⟩ (.int .i64 U.al) := ⟨_, rfl⟩
                  rw [← hw] at hk6 f9_6 f10_6 hv6 hx6 ⊢
                  clear hw
                  have hHeld := unhide hk6
                  refine wpAnyH_done (by kernel_rfl) ?_ _
                  go_wp2_with fail
                  go_meet
                  exact ⟨b9, rfl, unhide f9_6, unhide hv6, unhide hx6, unhide hk6⟩
                · have g10 := hide (FB.of (unhide hk2))
                  have f10_3 := hide (C4.new wz2 0 0 false 0 30)
                  have hk3 := hide (S8.alloc (unhide hk2) (Obj.cells #[.int .i64 0, .int .i64 0, .bool false, .int .i64 0] 30))
                  have hv3 := hide (C4.call ((Below.refl _ _).alloc (Nat.le_refl _) (Obj.cells #[.int .i64 0, .int .i64 0, .bool false, .int .i64 0] 30)) (unhide hv2))
                  have hx3 := hide (C4.call ((Below.refl _ _).alloc (Nat.le_refl _) (Obj.cells #[.int .i64 0, .int .i64 0, .bool false, .int .i64 0] 30)) (unhide hx2))
                  have f9_3 := hide (C4.call ((Below.refl _ _).alloc (Nat.le_refl _) (Obj.cells #[.int .i64 0, .int .i64 0, .bool false, .int .i64 0] 30)) (unhide f9_2))
                  have lhv_10 : C < wz2.heap.size := (unhide hv2).2.1
                  have lhx_10 : D < wz2.heap.size := (unhide hx2).2.1
                  have l9_10 : b9 < wz2.heap.size := (unhide f9_2).2.1
                  go_simp
                  refine hK.out _ _ (unhide hk3) (fun hHeld => ?_)
                  clear hK K
                  try simp only [Act.put, List.setIfInBounds_toArray, List.set_cons_zero, List.set_cons_succ]
                  clear hHeld
                  generalize hg : wz2.alloc (Obj.cells #[.int .i64 0, .int .i64 0, .bool false, .int .i64 0] 30) = wz3 at hk3 f10_3 hv3 hx3 f9_3 ⊢
                  clear hg hk2 hv2 hx2 f9_2
                  have hHeld := unhide hk3
                  obtain ⟨b10, hb10⟩ : ∃ b, b = wz2.heap.size := ⟨_, rfl⟩
                  rw [← hb10] at g10 f10_3 lhv_10 lhx_10 l9_10 ⊢
                  clear hb10
                  refine wpAnyH_ready (rs := [5]) (by kernel_rfl) (by simp) ?_
                  refine AllReadyH.cons (i := 5) (o := { dst := some 83, op := Op.call { callee := Callee.value (Operand.func 10), args := #[Operand.tmp 78, Operand.tmp 79, Operand.tmp 82], argTypes := #[2, 25, 25] }, type := 31, pos := _, after := _, guard := none }) rfl (fun K hK => ?_) AllReadyH.nil
                  go_simp
                  refine (op_any k al ah (joinL bl bh dl dh) (joinH bl bh dl dh) k0 k4 (unhide HI).1.1 (unhide HI).1.2.1 (unhide HJ).2.1 (unhide HJ).2.2.1 _).mono ?_
                  rintro e wz4 ⟨rfl, hb4⟩
                  rw [← unhide HU]
                  have hk4 := hide (S8.call hb4 (unhide hk3))
                  have hv4 := hide (C4.call hb4 (unhide hv3))
                  have hx4 := hide (C4.call hb4 (unhide hx3))
                  have f9_4 := hide (C4.call hb4 (unhide f9_3))
                  have f10_4 := hide (C4.call hb4 (unhide f10_3))
                  clear hb4 hv3 hx3 f9_3 f10_3
                  refine hK.out _ _ (unhide hk4) (fun hHeld => ?_)
                  clear hK K
                  try simp only [Act.put, List.setIfInBounds_toArray, List.set_cons_zero, List.set_cons_succ]
                  refine wpAnyH_take (i := 6) (oi := { dst := some 77, op := Op.move (Operand.tmp 83), type := 31, pos := _, after := _, guard := none }) (v := ?_) rfl (by kernel_rfl) (by kernel_rfl) (by kernel_rfl) (fun _ _ _ h => h) (Or.inl ⟨by rfl, ?_⟩) (by assumption) ?_
                  rotate_left
                  · (intro w hSw; (try dsimp only at hSw); go_simp; try with_reducible rfl)
                  try simp only [Act.put, List.setIfInBounds_toArray, List.set_cons_zero, List.set_cons_succ]
                  refine wpAnyH_take (i := 7) (oi := { dst := some 84, op := Op.extract (Operand.tmp 77) 0, type := 30, pos := _, after := _, guard := none }) (v := ?_) rfl (by kernel_rfl) (by kernel_rfl) (by kernel_rfl) (fun _ _ _ h => h) (Or.inl ⟨by rfl, ?_⟩) (by assumption) ?_
                  rotate_left
                  · (intro w hSw; (try dsimp only at hSw); go_simp; try with_reducible rfl)
                  try simp only [Act.put, List.setIfInBounds_toArray, List.set_cons_zero, List.set_cons_succ]
                  refine wpAnyH_take (i := 8) (oi := { dst := some 85, op := Op.extract (Operand.tmp 77) 1, type := 30, pos := _, after := _, guard := none }) (v := ?_) rfl (by kernel_rfl) (by kernel_rfl) (by kernel_rfl) (fun _ _ _ h => h) (Or.inl ⟨by rfl, ?_⟩) (by assumption) ?_
                  rotate_left
                  · (intro w hSw; (try dsimp only at hSw); go_simp; try with_reducible rfl)
                  try simp only [Act.put, List.setIfInBounds_toArray, List.set_cons_zero, List.set_cons_succ]
                  refine wpAnyH_ready (rs := [11]) (by kernel_rfl) (by simp) ?_
                  refine AllReadyH.cons (i := 11) (o := { dst := none, op := Op.store 30 (Operand.tmp 14) (Operand.tmp 84), type := 0, pos := _, after := _, guard := none }) rfl (fun K hK => ?_) AllReadyH.nil
                  obtain ⟨⟨c0, c1, c2, c3⟩, c4, c5⟩ := unhide f9_4
                  go_simp
                  refine hK.out _ _ ?_ (fun hHeld => ?_)
                  · exact S8.put (unhide hk4) (unhide g9) _ _ _ _
                  clear hK K c0 c1 c2 c3 c4 c5 hHeld
                  try simp only [Act.put, List.setIfInBounds_toArray, List.set_cons_zero, List.set_cons_succ]
                  have hk5 := hide (S8.put (unhide hk4) (unhide g9) (.int .i64 U.lo) (.int .i64 U.hi) (.bool U.live) (.int .i64 U.al))
                  have f9_5 := hide (C4.put (x' := U.lo) (y' := U.hi) (l' := U.live) (u' := U.al) (unhide f9_4))
                  have f10_5 := hide (C4.far (c := b9) (unhide f10_4) (by omega) (.int .i64 U.lo) (.int .i64 U.hi) (.bool U.live) (.int .i64 U.al))
                  have hv5 := hide (C4.far (c := b9) (unhide hv4) (by omega) (.int .i64 U.lo) (.int .i64 U.hi) (.bool U.live) (.int .i64 U.al))
                  have hx5 := hide (C4.far (c := b9) (unhide hx4) (by omega) (.int .i64 U.lo) (.int .i64 U.hi) (.bool U.live) (.int .i64 U.al))
                  obtain ⟨wz5, hw⟩ : ∃ x, x = (((wz4.setCell ⟨b9, 0, none⟩ (.int .i64 U.lo)).setCell ⟨b9, 1, none⟩ (.int .i64 U.hi)).setCell ⟨b9, 2, none⟩ (.bool U.live)).setCell ⟨b9, 3, none⟩ (.int .i64 U.al) := ⟨_, rfl⟩
                  rw [← hw] at hk5 f9_5 f10_5 hv5 hx5 ⊢
                  clear hw
                  have hHeld := unhide hk5
                  refine wpAnyH_ready (rs := [12]) (by kernel_rfl) (by simp) ?_
                  refine AllReadyH.cons (i := 12) (o := { dst := none, op := Op.store 30 (Operand.tmp 15) (Operand.tmp 85), type := 0, pos := _, after := _, guard := none }) rfl (fun K hK => ?_) AllReadyH.nil
                  obtain ⟨⟨c0, c1, c2, c3⟩, c4, c5⟩ := unhide f10_5
                  go_simp
                  refine hK.out _ _ ?_ (fun hHeld => ?_)
                  · exact S8.put (unhide hk5) (unhide g10) _ _ _ _
                  clear hK K c0 c1 c2 c3 c4 c5 hHeld
                  try simp only [Act.put, List.setIfInBounds_toArray, List.set_cons_zero, List.set_cons_succ]
                  have hk6 := hide (S8.put (unhide hk5) (unhide g10) (.int .i64 U.lo) (.int .i64 U.hi) (.bool U.live) (.int .i64 U.al))
                  have f10_6 := hide (C4.put (x' := U.lo) (y' := U.hi) (l' := U.live) (u' := U.al) (unhide f10_5))
                  have f9_6 := hide (C4.far (c := b10) (unhide f9_5) (by omega) (.int .i64 U.lo) (.int .i64 U.hi) (.bool U.live) (.int .i64 U.al))
                  have hv6 := hide (C4.far (c := b10) (unhide hv5) (by omega) (.int .i64 U.lo) (.int .i64 U.hi) (.bool U.live) (.int .i64 U.al))
                  have hx6 := hide (C4.far (c := b10) (unhide hx5) (by omega) (.int .i64 U.lo) (.int .i64 U.hi) (.bool U.live) (.int .i64 U.al))
                  obtain ⟨wz6, hw⟩ : ∃ x, x = (((wz5.setCell ⟨b10, 0, none⟩ (.int .i64 U.lo)).setCell ⟨b10, 1, none⟩ (.int .i64 U.hi)).setCell ⟨b10, 2, none⟩ (.bool U.live)).setCell ⟨b10, 3, none⟩ (.int .i64 U.al) := ⟨_, rfl⟩
                  rw [← hw] at hk6 f9_6 f10_6 hv6 hx6 ⊢
                  clear hw
                  have hHeld := unhide hk6
                  refine wpAnyH_done (by kernel_rfl) ?_ _
                  go_wp2_with fail
                  go_meet
                  exact ⟨b9, rfl, unhide f9_6, unhide hv6, unhide hx6, unhide hk6⟩
              · have g10 := hide (FB.of (unhide hk1))
                have f10_2 := hide (C4.new wz1 0 0 false 0 30)
                have hk2 := hide (S8.alloc (unhide hk1) (Obj.cells #[.int .i64 0, .int .i64 0, .bool false, .int .i64 0] 30))
                have hv2 := hide (C4.call ((Below.refl _ _).alloc (Nat.le_refl _) (Obj.cells #[.int .i64 0, .int .i64 0, .bool false, .int .i64 0] 30)) (unhide hv1))
                have hx2 := hide (C4.call ((Below.refl _ _).alloc (Nat.le_refl _) (Obj.cells #[.int .i64 0, .int .i64 0, .bool false, .int .i64 0] 30)) (unhide hx1))
                have lhv_10 : C < wz1.heap.size := (unhide hv1).2.1
                have lhx_10 : D < wz1.heap.size := (unhide hx1).2.1
                go_simp
                refine hK.out _ _ (unhide hk2) (fun hHeld => ?_)
                clear hK K
                try simp only [Act.put, List.setIfInBounds_toArray, List.set_cons_zero, List.set_cons_succ]
                clear hHeld
                generalize hg : wz1.alloc (Obj.cells #[.int .i64 0, .int .i64 0, .bool false, .int .i64 0] 30) = wz2 at hk2 f10_2 hv2 hx2 ⊢
                clear hg hk1 hv1 hx1
                have hHeld := unhide hk2
                obtain ⟨b10, hb10⟩ : ∃ b, b = wz1.heap.size := ⟨_, rfl⟩
                rw [← hb10] at g10 f10_2 lhv_10 lhx_10 ⊢
                clear hb10
                refine wpAnyH_ready (rs := [5, 9]) (by kernel_rfl) (by simp) ?_
                refine AllReadyH.cons (i := 5) (o := { dst := some 83, op := Op.call { callee := Callee.value (Operand.func 10), args := #[Operand.tmp 78, Operand.tmp 79, Operand.tmp 82], argTypes := #[2, 25, 25] }, type := 31, pos := _, after := _, guard := none }) rfl (fun K hK => ?_) (AllReadyH.cons (i := 9) (o := { dst := some 14, op := Op.alloc 30, type := 0, pos := _, after := _, guard := none }) rfl (fun K hK => ?_) AllReadyH.nil)
                · go_simp
                  refine (op_any k al ah (joinL bl bh dl dh) (joinH bl bh dl dh) k0 k4 (unhide HI).1.1 (unhide HI).1.2.1 (unhide HJ).2.1 (unhide HJ).2.2.1 _).mono ?_
                  rintro e wz3 ⟨rfl, hb3⟩
                  rw [← unhide HU]
                  have hk3 := hide (S8.call hb3 (unhide hk2))
                  have hv3 := hide (C4.call hb3 (unhide hv2))
                  have hx3 := hide (C4.call hb3 (unhide hx2))
                  have f10_3 := hide (C4.call hb3 (unhide f10_2))
                  clear hb3 hv2 hx2 f10_2
                  refine hK.out _ _ (unhide hk3) (fun hHeld => ?_)
                  clear hK K
                  try simp only [Act.put, List.setIfInBounds_toArray, List.set_cons_zero, List.set_cons_succ]
                  refine wpAnyH_take (i := 6) (oi := { dst := some 77, op := Op.move (Operand.tmp 83), type := 31, pos := _, after := _, guard := none }) (v := ?_) rfl (by kernel_rfl) (by kernel_rfl) (by kernel_rfl) (fun _ _ _ h => h) (Or.inl ⟨by rfl, ?_⟩) (by assumption) ?_
                  rotate_left
                  · (intro w hSw; (try dsimp only at hSw); go_simp; try with_reducible rfl)
                  try simp only [Act.put, List.setIfInBounds_toArray, List.set_cons_zero, List.set_cons_succ]
                  refine wpAnyH_take (i := 7) (oi := { dst := some 84, op := Op.extract (Operand.tmp 77) 0, type := 30, pos := _, after := _, guard := none }) (v := ?_) rfl (by kernel_rfl) (by kernel_rfl) (by kernel_rfl) (fun _ _ _ h => h) (Or.inl ⟨by rfl, ?_⟩) (by assumption) ?_
                  rotate_left
                  · (intro w hSw; (try dsimp only at hSw); go_simp; try with_reducible rfl)
                  try simp only [Act.put, List.setIfInBounds_toArray, List.set_cons_zero, List.set_cons_succ]
                  refine wpAnyH_take (i := 8) (oi := { dst := some 85, op := Op.extract (Operand.tmp 77) 1, type := 30, pos := _, after := _, guard := none }) (v := ?_) rfl (by kernel_rfl) (by kernel_rfl) (by kernel_rfl) (fun _ _ _ h => h) (Or.inl ⟨by rfl, ?_⟩) (by assumption) ?_
                  rotate_left
                  · (intro w hSw; (try dsimp only at hSw); go_simp; try with_reducible rfl)
                  try simp only [Act.put, List.setIfInBounds_toArray, List.set_cons_zero, List.set_cons_succ]
                  refine wpAnyH_ready (rs := [9]) (by kernel_rfl) (by simp) ?_
                  refine AllReadyH.cons (i := 9) (o := { dst := some 14, op := Op.alloc 30, type := 0, pos := _, after := _, guard := none }) rfl (fun K hK => ?_) AllReadyH.nil
                  have g9 := hide (FB.of (unhide hk3))
                  have f9_4 := hide (C4.new wz3 0 0 false 0 30)
                  have hk4 := hide (S8.alloc (unhide hk3) (Obj.cells #[.int .i64 0, .int .i64 0, .bool false, .int .i64 0] 30))
                  have hv4 := hide (C4.call ((Below.refl _ _).alloc (Nat.le_refl _) (Obj.cells #[.int .i64 0, .int .i64 0, .bool false, .int .i64 0] 30)) (unhide hv3))
                  have hx4 := hide (C4.call ((Below.refl _ _).alloc (Nat.le_refl _) (Obj.cells #[.int .i64 0, .int .i64 0, .bool false, .int .i64 0] 30)) (unhide hx3))
                  have f10_4 := hide (C4.call ((Below.refl _ _).alloc (Nat.le_refl _) (Obj.cells #[.int .i64 0, .int .i64 0, .bool false, .int .i64 0] 30)) (unhide f10_3))
                  have lhv_9 : C < wz3.heap.size := (unhide hv3).2.1
                  have lhx_9 : D < wz3.heap.size := (unhide hx3).2.1
                  have l10_9 : b10 < wz3.heap.size := (unhide f10_3).2.1
                  go_simp
                  refine hK.out _ _ (unhide hk4) (fun hHeld => ?_)
                  clear hK K
                  try simp only [Act.put, List.setIfInBounds_toArray, List.set_cons_zero, List.set_cons_succ]
                  clear hHeld
                  generalize hg : wz3.alloc (Obj.cells #[.int .i64 0, .int .i64 0, .bool false, .int .i64 0] 30) = wz4 at hk4 f9_4 hv4 hx4 f10_4 ⊢
                  clear hg hk3 hv3 hx3 f10_3
                  have hHeld := unhide hk4
                  obtain ⟨b9, hb9⟩ : ∃ b, b = wz3.heap.size := ⟨_, rfl⟩
                  rw [← hb9] at g9 f9_4 lhv_9 lhx_9 l10_9 ⊢
                  clear hb9
                  refine wpAnyH_ready (rs := [11]) (by kernel_rfl) (by simp) ?_
                  refine AllReadyH.cons (i := 11) (o := { dst := none, op := Op.store 30 (Operand.tmp 14) (Operand.tmp 84), type := 0, pos := _, after := _, guard := none }) rfl (fun K hK => ?_) AllReadyH.nil
                  obtain ⟨⟨c0, c1, c2, c3⟩, c4, c5⟩ := unhide f9_4
                  go_simp
                  refine hK.out _ _ ?_ (fun hHeld => ?_)
                  · exact S8.put (unhide hk4) (unhide g9) _ _ _ _
                  clear hK K c0 c1 c2 c3 c4 c5 hHeld
                  try simp only [Act.put, List.setIfInBounds_toArray, List.set_cons_zero, List.set_cons_succ]
                  have hk5 := hide (S8.put (unhide hk4) (unhide g9) (.int .i64 U.lo) (.int .i64 U.hi) (.bool U.live) (.int .i64 U.al))
                  have f9_5 := hide (C4.put (x' := U.lo) (y' := U.hi) (l' := U.live) (u' := U.al) (unhide f9_4))
                  have f10_5 := hide (C4.far (c := b9) (unhide f10_4) (by omega) (.int .i64 U.lo) (.int .i64 U.hi) (.bool U.live) (.int .i64 U.al))
                  have hv5 := hide (C4.far (c := b9) (unhide hv4) (by omega) (.int .i64 U.lo) (.int .i64 U.hi) (.bool U.live) (.int .i64 U.al))
                  have hx5 := hide (C4.far (c := b9) (unhide hx4) (by omega) (.int .i64 U.lo) (.int .i64 U.hi) (.bool U.live) (.int .i64 U.al))
                  obtain ⟨wz5, hw⟩ : ∃ x, x = (((wz4.setCell ⟨b9, 0, none⟩ (.int .i64 U.lo)).setCell ⟨b9, 1, none⟩ (.int .i64 U.hi)).setCell ⟨b9, 2, none⟩ (.bool U.live)).setCell ⟨b9, 3, none⟩ (.int .i64 U.al) := ⟨_, rfl⟩
                  rw [← hw] at hk5 f9_5 f10_5 hv5 hx5 ⊢
                  clear hw
                  have hHeld := unhide hk5
                  refine wpAnyH_ready (rs := [12]) (by kernel_rfl) (by simp) ?_
                  refine AllReadyH.cons (i := 12) (o := { dst := none, op := Op.store 30 (Operand.tmp 15) (Operand.tmp 85), type := 0, pos := _, after := _, guard := none }) rfl (fun K hK => ?_) AllReadyH.nil
                  obtain ⟨⟨c0, c1, c2, c3⟩, c4, c5⟩ := unhide f10_5
                  go_simp
                  refine hK.out _ _ ?_ (fun hHeld => ?_)
                  · exact S8.put (unhide hk5) (unhide g10) _ _ _ _
                  clear hK K c0 c1 c2 c3 c4 c5 hHeld
                  try simp only [Act.put, List.setIfInBounds_toArray, List.set_cons_zero, List.set_cons_succ]
                  have hk6 := hide (S8.put (unhide hk5) (unhide g10) (.int .i64 U.lo) (.int .i64 U.hi) (.bool U.live) (.int .i64 U.al))
                  have f10_6 := hide (C4.put (x' := U.lo) (y' := U.hi) (l' := U.live) (u' := U.al) (unhide f10_5))
                  have f9_6 := hide (C4.far (c := b10) (unhide f9_5) (by omega) (.int .i64 U.lo) (.int .i64 U.hi) (.bool U.live) (.int .i64 U.al))
                  have hv6 := hide (C4.far (c := b10) (unhide hv5) (by omega) (.int .i64 U.lo) (.int .i64 U.hi) (.bool U.live) (.int .i64 U.al))
                  have hx6 := hide (C4.far (c := b10) (unhide hx5) (by omega) (.int .i64 U.lo) (.int .i64 U.hi) (.bool U.live) (.int .i64 U.al))
                  obtain ⟨wz6, hw⟩ : ∃ x, x = (((wz5.setCell ⟨b10, 0, none⟩ (.int .i64 U.lo)).setCell ⟨b10, 1, none⟩ (.int .i64 U.hi)).setCell ⟨b10, 2, none⟩ (.bool U.live)).setCell ⟨b10, 3, none⟩ (.int .i64 U.al) := ⟨_, rfl⟩
                  rw [← hw] at hk6 f9_6 f10_6 hv6 hx6 ⊢
                  clear hw
                  have hHeld := unhide hk6
                  refine wpAnyH_done (by kernel_rfl) ?_ _
                  go_wp2_with fail
                  go_meet
                  exact ⟨b9, rfl, unhide f9_6, unhide hv6, unhide hx6, unhide hk6⟩
                · have g9 := hide (FB.of (unhide hk2))
                  have f9_3 := hide (C4.new wz2 0 0 false 0 30)
                  have hk3 := hide (S8.alloc (unhide hk2) (Obj.cells #[.int .i64 0, .int .i64 0, .bool false, .int .i64 0] 30))
                  have hv3 := hide (C4.call ((Below.refl _ _).alloc (Nat.le_refl _) (Obj.cells #[.int .i64 0, .int .i64 0, .bool false, .int .i64 0] 30)) (unhide hv2))
                  have hx3 := hide (C4.call ((Below.refl _ _).alloc (Nat.le_refl _) (Obj.cells #[.int .i64 0, .int .i64 0, .bool false, .int .i64 0] 30)) (unhide hx2))
                  have f10_3 := hide (C4.call ((Below.refl _ _).alloc (Nat.le_refl _) (Obj.cells #[.int .i64 0, .int .i64 0, .bool false, .int .i64 0] 30)) (unhide f10_2))
                  have lhv_9 : C < wz2.heap.size := (unhide hv2).2.1
                  have lhx_9 : D < wz2.heap.size := (unhide hx2).2.1
                  have l10_9 : b10 < wz2.heap.size := (unhide f10_2).2.1
                  go_simp
                  refine hK.out _ _ (unhide hk3) (fun hHeld => ?_)
                  clear hK K
                  try simp only [Act.put, List.setIfInBounds_toArray, List.set_cons_zero, List.set_cons_succ]
                  clear hHeld
                  generalize hg : wz2.alloc (Obj.cells #[.int .i64 0, .int .i64 0, .bool false, .int .i64 0] 30) = wz3 at hk3 f9_3 hv3 hx3 f10_3 ⊢
                  clear hg hk2 hv2 hx2 f10_2
                  have hHeld := unhide hk3
                  obtain ⟨b9, hb9⟩ : ∃ b, b = wz2.heap.size := ⟨_, rfl⟩
                  rw [← hb9] at g9 f9_3 lhv_9 lhx_9 l10_9 ⊢
                  clear hb9
                  refine wpAnyH_ready (rs := [5]) (by kernel_rfl) (by simp) ?_
                  refine AllReadyH.cons (i := 5) (o := { dst := some 83, op := Op.call { callee := Callee.value (Operand.func 10), args := #[Operand.tmp 78, Operand.tmp 79, Operand.tmp 82], argTypes := #[2, 25, 25] }, type := 31, pos := _, after := _, guard := none }) rfl (fun K hK => ?_) AllReadyH.nil
                  go_simp
                  refine (op_any k al ah (joinL bl bh dl dh) (joinH bl bh dl dh) k0 k4 (unhide HI).1.1 (unhide HI).1.2.1 (unhide HJ).2.1 (unhide HJ).2.2.1 _).mono ?_
                  rintro e wz4 ⟨rfl, hb4⟩
                  rw [← unhide HU]
                  have hk4 := hide (S8.call hb4 (unhide hk3))
                  have hv4 := hide (C4.call hb4 (unhide hv3))
                  have hx4 := hide (C4.call hb4 (unhide hx3))
                  have f10_4 := hide (C4.call hb4 (unhide f10_3))
                  have f9_4 := hide (C4.call hb4 (unhide f9_3))
                  clear hb4 hv3 hx3 f10_3 f9_3
                  refine hK.out _ _ (unhide hk4) (fun hHeld => ?_)
                  clear hK K
                  try simp only [Act.put, List.setIfInBounds_toArray, List.set_cons_zero, List.set_cons_succ]
                  refine wpAnyH_take (i := 6) (oi := { dst := some 77, op := Op.move (Operand.tmp 83), type := 31, pos := _, after := _, guard := none }) (v := ?_) rfl (by kernel_rfl) (by kernel_rfl) (by kernel_rfl) (fun _ _ _ h => h) (Or.inl ⟨by rfl, ?_⟩) (by assumption) ?_
                  rotate_left
                  · (intro w hSw; (try dsimp only at hSw); go_simp; try with_reducible rfl)
                  try simp only [Act.put, List.setIfInBounds_toArray, List.set_cons_zero, List.set_cons_succ]
                  refine wpAnyH_take (i := 7) (oi := { dst := some 84, op := Op.extract (Operand.tmp 77) 0, type := 30, pos := _, after := _, guard := none }) (v := ?_) rfl (by kernel_rfl) (by kernel_rfl) (by kernel_rfl) (fun _ _ _ h => h) (Or.inl ⟨by rfl, ?_⟩) (by assumption) ?_
                  rotate_left
                  · (intro w hSw; (try dsimp only at hSw); go_simp; try with_reducible rfl)
                  try simp only [Act.put, List.setIfInBounds_toArray, List.set_cons_zero, List.set_cons_succ]
                  refine wpAnyH_take (i := 8) (oi := { dst := some 85, op := Op.extract (Operand.tmp 77) 1, type := 30, pos := _, after := _, guard := none }) (v := ?_) rfl (by kernel_rfl) (by kernel_rfl) (by kernel_rfl) (fun _ _ _ h => h) (Or.inl ⟨by rfl, ?_⟩) (by assumption) ?_
                  rotate_left
                  · (intro w hSw; (try dsimp only at hSw); go_simp; try with_reducible rfl)
                  try simp only [Act.put, List.setIfInBounds_toArray, List.set_cons_zero, List.set_cons_succ]
                  refine wpAnyH_ready (rs := [11]) (by kernel_rfl) (by simp) ?_
                  refine AllReadyH.cons (i := 11) (o := { dst := none, op := Op.store 30 (Operand.tmp 14) (Operand.tmp 84), type := 0, pos := _, after := _, guard := none }) rfl (fun K hK => ?_) AllReadyH.nil
                  obtain ⟨⟨c0, c1, c2, c3⟩, c4, c5⟩ := unhide f9_4
                  go_simp
                  refine hK.out _ _ ?_ (fun hHeld => ?_)
                  · exact S8.put (unhide hk4) (unhide g9) _ _ _ _
                  clear hK K c0 c1 c2 c3 c4 c5 hHeld
                  try simp only [Act.put, List.setIfInBounds_toArray, List.set_cons_zero, List.set_cons_succ]
                  have hk5 := hide (S8.put (unhide hk4) (unhide g9) (.int .i64 U.lo) (.int .i64 U.hi) (.bool U.live) (.int .i64 U.al))
                  have f9_5 := hide (C4.put (x' := U.lo) (y' := U.hi) (l' := U.live) (u' := U.al) (unhide f9_4))
                  have f10_5 := hide (C4.far (c := b9) (unhide f10_4) (by omega) (.int .i64 U.lo) (.int .i64 U.hi) (.bool U.live) (.int .i64 U.al))
                  have hv5 := hide (C4.far (c := b9) (unhide hv4) (by omega) (.int .i64 U.lo) (.int .i64 U.hi) (.bool U.live) (.int .i64 U.al))
                  have hx5 := hide (C4.far (c := b9) (unhide hx4) (by omega) (.int .i64 U.lo) (.int .i64 U.hi) (.bool U.live) (.int .i64 U.al))
                  obtain ⟨wz5, hw⟩ : ∃ x, x = (((wz4.setCell ⟨b9, 0, none⟩ (.int .i64 U.lo)).setCell ⟨b9, 1, none⟩ (.int .i64 U.hi)).setCell ⟨b9, 2, none⟩ (.bool U.live)).setCell ⟨b9, 3, none⟩ (.int .i64 U.al) := ⟨_, rfl⟩
                  rw [← hw] at hk5 f9_5 f10_5 hv5 hx5 ⊢
                  clear hw
                  have hHeld := unhide hk5
                  refine wpAnyH_ready (rs := [12]) (by kernel_rfl) (by simp) ?_
                  refine AllReadyH.cons (i := 12) (o := { dst := none, op := Op.store 30 (Operand.tmp 15) (Operand.tmp 85), type := 0, pos := _, after := _, guard := none }) rfl (fun K hK => ?_) AllReadyH.nil
                  obtain ⟨⟨c0, c1, c2, c3⟩, c4, c5⟩ := unhide f10_5
                  go_simp
                  refine hK.out _ _ ?_ (fun hHeld => ?_)
                  · exact S8.put (unhide hk5) (unhide g10) _ _ _ _
                  clear hK K c0 c1 c2 c3 c4 c5 hHeld
                  try simp only [Act.put, List.setIfInBounds_toArray, List.set_cons_zero, List.set_cons_succ]
                  have hk6 := hide (S8.put (unhide hk5) (unhide g10) (.int .i64 U.lo) (.int .i64 U.hi) (.bool U.live) (.int .i64 U.al))
                  have f10_6 := hide (C4.put (x' := U.lo) (y' := U.hi) (l' := U.live) (u' := U.al) (unhide f10_5))
                  have f9_6 := hide (C4.far (c := b10) (unhide f9_5) (by omega) (.int .i64 U.lo) (.int .i64 U.hi) (.bool U.live) (.int .i64 U.al))
                  have hv6 := hide (C4.far (c := b10) (unhide hv5) (by omega) (.int .i64 U.lo) (.int .i64 U.hi) (.bool U.live) (.int .i64 U.al))
                  have hx6 := hide (C4.far (c := b10) (unhide hx5) (by omega) (.int .i64 U.lo) (.int .i64 U.hi) (.bool U.live) (.int .i64 U.al))
                  obtain ⟨wz6, hw⟩ : ∃ x, x = (((wz5.setCell ⟨b10, 0, none⟩ (.int .i64 U.lo)).setCell ⟨b10, 1, none⟩ (.int .i64 U.hi)).setCell ⟨b10, 2, none⟩ (.bool U.live)).setCell ⟨b10, 3, none⟩ (.int .i64 U.al) := ⟨_, rfl⟩
                  rw [← hw] at hk6 f9_6 f10_6 hv6 hx6 ⊢
                  clear hw
                  have hHeld := unhide hk6
                  refine wpAnyH_done (by kernel_rfl) ?_ _
                  go_wp2_with fail
                  go_meet
                  exact ⟨b9, rfl, unhide f9_6, unhide hv6, unhide hx6, unhide hk6⟩
            · have g9 := hide (FB.of (unhide hk0))
              have f9_1 := hide (C4.new wz0 0 0 false 0 30)
              have hk1 := hide (S8.alloc (unhide hk0) (Obj.cells #[.int .i64 0, .int .i64 0, .bool false, .int .i64 0] 30))
              have hv1 := hide (C4.call ((Below.refl _ _).alloc (Nat.le_refl _) (Obj.cells #[.int .i64 0, .int .i64 0, .bool false, .int .i64 0] 30)) (unhide hv0))
              have hx1 := hide (C4.call ((Below.refl _ _).alloc (Nat.le_refl _) (Obj.cells #[.int .i64 0, .int .i64 0, .bool false, .int .i64 0] 30)) (unhide hx0))
              have lhv_9 : C < wz0.heap.size := (unhide hv0).2.1
              have lhx_9 : D < wz0.heap.size := (unhide hx0).2.1
              go_simp
              refine hK.out _ _ (unhide hk1) (fun hHeld => ?_)
              clear hK K
              try simp only [Act.put, List.setIfInBounds_toArray, List.set_cons_zero, List.set_cons_succ]
              clear hHeld
              generalize hg : wz0.alloc (Obj.cells #[.int .i64 0, .int .i64 0, .bool false, .int .i64 0] 30) = wz1 at hk1 f9_1 hv1 hx1 ⊢
              clear hg hk0 hv0 hx0
              have hHeld := unhide hk1
              obtain ⟨b9, hb9⟩ : ∃ b, b = wz0.heap.size := ⟨_, rfl⟩
              rw [← hb9] at g9 f9_1 lhv_9 lhx_9 ⊢
              clear hb9
              refine wpAnyH_ready (rs := [4, 10]) (by kernel_rfl) (by simp) ?_
              refine AllReadyH.cons (i := 4) (o := { dst := some 82, op := Op.call { callee := Callee.value (Operand.func 17), args := #[Operand.tmp 80, Operand.tmp 81], argTypes := #[25, 25] }, type := 25, pos := _, after := _, guard := none }) rfl (fun K hK => ?_) (AllReadyH.cons (i := 10) (o := { dst := some 15, op := Op.alloc 30, type := 0, pos := _, after := _, guard := none }) rfl (fun K hK => ?_) AllReadyH.nil)
              · go_simp
                refine (sIvJoin_c _ _ _ _ _).mono ?_
                rintro e wz2 ⟨rfl, hb2⟩
                have hk2 := hide (S8.call hb2 (unhide hk1))
                have hv2 := hide (C4.call hb2 (unhide hv1))
                have hx2 := hide (C4.call hb2 (unhide hx1))
                have f9_2 := hide (C4.call hb2 (unhide f9_1))
                clear hb2 hv1 hx1 f9_1
                refine hK.out _ _ (unhide hk2) (fun hHeld => ?_)
                clear hK K
                try simp only [Act.put, List.setIfInBounds_toArray, List.set_cons_zero, List.set_cons_succ]
                refine wpAnyH_ready (rs := [5, 10]) (by kernel_rfl) (by simp) ?_
                refine AllReadyH.cons (i := 5) (o := { dst := some 83, op := Op.call { callee := Callee.value (Operand.func 10), args := #[Operand.tmp 78, Operand.tmp 79, Operand.tmp 82], argTypes := #[2, 25, 25] }, type := 31, pos := _, after := _, guard := none }) rfl (fun K hK => ?_) (AllReadyH.cons (i := 10) (o := { dst := some 15, op := Op.alloc 30, type := 0, pos := _, after := _, guard := none }) rfl (fun K hK => ?_) AllReadyH.nil)
                · go_simp
                  refine (op_any k al ah (joinL bl bh dl dh) (joinH bl bh dl dh) k0 k4 (unhide HI).1.1 (unhide HI).1.2.1 (unhide HJ).2.1 (unhide HJ).2.2.1 _).mono ?_
                  rintro e wz3 ⟨rfl, hb3⟩
                  rw [← unhide HU]
                  have hk3 := hide (S8.call hb3 (unhide hk2))
                  have hv3 := hide (C4.call hb3 (unhide hv2))
                  have hx3 := hide (C4.call hb3 (unhide hx2))
                  have f9_3 := hide (C4.call hb3 (unhide f9_2))
                  clear hb3 hv2 hx2 f9_2
                  refine hK.out _ _ (unhide hk3) (fun hHeld => ?_)
                  clear hK K
                  try simp only [Act.put, List.setIfInBounds_toArray, List.set_cons_zero, List.set_cons_succ]
                  refine wpAnyH_take (i := 6) (oi := { dst := some 77, op := Op.move (Operand.tmp 83), type := 31, pos := _, after := _, guard := none }) (v := ?_) rfl (by kernel_rfl) (by kernel_rfl) (by kernel_rfl) (fun _ _ _ h => h) (Or.inl ⟨by rfl, ?_⟩) (by assumption) ?_
                  rotate_left
                  · (intro w hSw; (try dsimp only at hSw); go_simp; try with_reducible rfl)
                  try simp only [Act.put, List.setIfInBounds_toArray, List.set_cons_zero, List.set_cons_succ]
                  refine wpAnyH_take (i := 7) (oi := { dst := some 84, op := Op.extract (Operand.tmp 77) 0, type := 30, pos := _, after := _, guard := none }) (v := ?_) rfl (by kernel_rfl) (by kernel_rfl) (by kernel_rfl) (fun _ _ _ h => h) (Or.inl ⟨by rfl, ?_⟩) (by assumption) ?_
                  rotate_left
                  · (intro w hSw; (try dsimp only at hSw); go_simp; try with_reducible rfl)
                  try simp only [Act.put, List.setIfInBounds_toArray, List.set_cons_zero, List.set_cons_succ]
                  refine wpAnyH_take (i := 8) (oi := { dst := some 85, op := Op.extract (Operand.tmp 77) 1, type := 30, pos := _, after := _, guard := none }) (v := ?_) rfl (by kernel_rfl) (by kernel_rfl) (by kernel_rfl) (fun _ _ _ h => h) (Or.inl ⟨by rfl, ?_⟩) (by assumption) ?_
                  rotate_left
                  · (intro w hSw; (try dsimp only at hSw); go_simp; try with_reducible rfl)
                  try simp only [Act.put, List.setIfInBounds_toArray, List.set_cons_zero, List.set_cons_succ]
                  refine wpAnyH_ready (rs := [10]) (by kernel_rfl) (by simp) ?_
                  refine AllReadyH.cons (i := 10) (o := { dst := some 15, op := Op.alloc 30, type := 0, pos := _, after := _, guard := none }) rfl (fun K hK => ?_) AllReadyH.nil
                  have g10 := hide (FB.of (unhide hk3))
                  have f10_4 := hide (C4.new wz3 0 0 false 0 30)
                  have hk4 := hide (S8.alloc (unhide hk3) (Obj.cells #[.int .i64 0, .int .i64 0, .bool false, .int .i64 0] 30))
                  have hv4 := hide (C4.call ((Below.refl _ _).alloc (Nat.le_refl _) (Obj.cells #[.int .i64 0, .int .i64 0, .bool false, .int .i64 0] 30)) (unhide hv3))
                  have hx4 := hide (C4.call ((Below.refl _ _).alloc (Nat.le_refl _) (Obj.cells #[.int .i64 0, .int .i64 0, .bool false, .int .i64 0] 30)) (unhide hx3))
                  have f9_4 := hide (C4.call ((Below.refl _ _).alloc (Nat.le_refl _) (Obj.cells #[.int .i64 0, .int .i64 0, .bool false, .int .i64 0] 30)) (unhide f9_3))
                  have lhv_10 : C < wz3.heap.size := (unhide hv3).2.1
                  have lhx_10 : D < wz3.heap.size := (unhide hx3).2.1
                  have l9_10 : b9 < wz3.heap.size := (unhide f9_3).2.1
                  go_simp
                  refine hK.out _ _ (unhide hk4) (fun hHeld => ?_)
                  clear hK K
                  try simp only [Act.put, List.setIfInBounds_toArray, List.set_cons_zero, List.set_cons_succ]
                  clear hHeld
                  generalize hg : wz3.alloc (Obj.cells #[.int .i64 0, .int .i64 0, .bool false, .int .i64 0] 30) = wz4 at hk4 f10_4 hv4 hx4 f9_4 ⊢
                  clear hg hk3 hv3 hx3 f9_3
                  have hHeld := unhide hk4
                  obtain ⟨b10, hb10⟩ : ∃ b, b = wz3.heap.size := ⟨_, rfl⟩
                  rw [← hb10] at g10 f10_4 lhv_10 lhx_10 l9_10 ⊢
                  clear hb10
                  refine wpAnyH_ready (rs := [11]) (by kernel_rfl) (by simp) ?_
                  refine AllReadyH.cons (i := 11) (o := { dst := none, op := Op.store 30 (Operand.tmp 14) (Operand.tmp 84), type := 0, pos := _, after := _, guard := none }) rfl (fun K hK => ?_) AllReadyH.nil
                  obtain ⟨⟨c0, c1, c2, c3⟩, c4, c5⟩ := unhide f9_4
                  go_simp
                  refine hK.out _ _ ?_ (fun hHeld => ?_)
                  · exact S8.put (unhide hk4) (unhide g9) _ _ _ _
                  clear hK K c0 c1 c2 c3 c4 c5 hHeld
                  try simp only [Act.put, List.setIfInBounds_toArray, List.set_cons_zero, List.set_cons_succ]
                  have hk5 := hide (S8.put (unhide hk4) (unhide g9) (.int .i64 U.lo) (.int .i64 U.hi) (.bool U.live) (.int .i64 U.al))
                  have f9_5 := hide (C4.put (x' := U.lo) (y' := U.hi) (l' := U.live) (u' := U.al) (unhide f9_4))
                  have f10_5 := hide (C4.far (c := b9) (unhide f10_4) (by omega) (.int .i64 U.lo) (.int .i64 U.hi) (.bool U.live) (.int .i64 U.al))
                  have hv5 := hide (C4.far (c := b9) (unhide hv4) (by omega) (.int .i64 U.lo) (.int .i64 U.hi) (.bool U.live) (.int .i64 U.al))
                  have hx5 := hide (C4.far (c := b9) (unhide hx4) (by omega) (.int .i64 U.lo) (.int .i64 U.hi) (.bool U.live) (.int .i64 U.al))
                  obtain ⟨wz5, hw⟩ : ∃ x, x = (((wz4.setCell ⟨b9, 0, none⟩ (.int .i64 U.lo)).setCell ⟨b9, 1, none⟩ (.int .i64 U.hi)).setCell ⟨b9, 2, none⟩ (.bool U.live)).setCell ⟨b9, 3, none⟩ (.int .i64 U.al) := ⟨_, rfl⟩
                  rw [← hw] at hk5 f9_5 f10_5 hv5 hx5 ⊢
                  clear hw
                  have hHeld := unhide hk5
                  refine wpAnyH_ready (rs := [12]) (by kernel_rfl) (by simp) ?_
                  refine AllReadyH.cons (i := 12) (o := { dst := none, op := Op.store 30 (Operand.tmp 15) (Operand.tmp 85), type := 0, pos := _, after := _, guard := none }) rfl (fun K hK => ?_) AllReadyH.nil
                  obtain ⟨⟨c0, c1, c2, c3⟩, c4, c5⟩ := unhide f10_5
                  go_simp
                  refine hK.out _ _ ?_ (fun hHeld => ?_)
                  · exact S8.put (unhide hk5) (unhide g10) _ _ _ _
                  clear hK K c0 c1 c2 c3 c4 c5 hHeld
                  try simp only [Act.put, List.setIfInBounds_toArray, List.set_cons_zero, List.set_cons_succ]
                  have hk6 := hide (S8.put (unhide hk5) (unhide g10) (.int .i64 U.lo) (.int .i64 U.hi) (.bool U.live) (.int .i64 U.al))
                  have f10_6 := hide (C4.put (x' := U.lo) (y' := U.hi) (l' := U.live) (u' := U.al) (unhide f10_5))
                  have f9_6 := hide (C4.far (c := b10) (unhide f9_5) (by omega) (.int .i64 U.lo) (.int .i64 U.hi) (.bool U.live) (.int .i64 U.al))
                  have hv6 := hide (C4.far (c := b10) (unhide hv5) (by omega) (.int .i64 U.lo) (.int .i64 U.hi) (.bool U.live) (.int .i64 U.al))
                  have hx6 := hide (C4.far (c := b10) (unhide hx5) (by omega) (.int .i64 U.lo) (.int .i64 U.hi) (.bool U.live) (.int .i64 U.al))
                  obtain ⟨wz6, hw⟩ : ∃ x, x = (((wz5.setCell ⟨b10, 0, none⟩ (.int .i64 U.lo)).setCell ⟨b10, 1, none⟩ (.int .i64 U.hi)).setCell ⟨b10, 2, none⟩ (.bool U.live)).setCell ⟨b10, 3, none⟩ (.int .i64 U.al) := ⟨_, rfl⟩
                  rw [← hw] at hk6 f9_6 f10_6 hv6 hx6 ⊢
                  clear hw
                  have hHeld := unhide hk6
                  refine wpAnyH_done (by kernel_rfl) ?_ _
                  go_wp2_with fail
                  go_meet
                  exact ⟨b9, rfl, unhide f9_6, unhide hv6, unhide hx6, unhide hk6⟩
                · have g10 := hide (FB.of (unhide hk2))
                  have f10_3 := hide (C4.new wz2 0 0 false 0 30)
                  have hk3 := hide (S8.alloc (unhide hk2) (Obj.cells #[.int .i64 0, .int .i64 0, .bool false, .int .i64 0] 30))
                  have hv3 := hide (C4.call ((Below.refl _ _).alloc (Nat.le_refl _) (Obj.cells #[.int .i64 0, .int .i64 0, .bool false, .int .i64 0] 30)) (unhide hv2))
                  have hx3 := hide (C4.call ((Below.refl _ _).alloc (Nat.le_refl _) (Obj.cells #[.int .i64 0, .int .i64 0, .bool false, .int .i64 0] 30)) (unhide hx2))
                  have f9_3 := hide (C4.call ((Below.refl _ _).alloc (Nat.le_refl _) (Obj.cells #[.int .i64 0, .int .i64 0, .bool false, .int .i64 0] 30)) (unhide f9_2))
                  have lhv_10 : C < wz2.heap.size := (unhide hv2).2.1
                  have lhx_10 : D < wz2.heap.size := (unhide hx2).2.1
                  have l9_10 : b9 < wz2.heap.size := (unhide f9_2).2.1
                  go_simp
                  refine hK.out _ _ (unhide hk3) (fun hHeld => ?_)
                  clear hK K
                  try simp only [Act.put, List.setIfInBounds_toArray, List.set_cons_zero, List.set_cons_succ]
                  clear hHeld
                  generalize hg : wz2.alloc (Obj.cells #[.int .i64 0, .int .i64 0, .bool false, .int .i64 0] 30) = wz3 at hk3 f10_3 hv3 hx3 f9_3 ⊢
                  clear hg hk2 hv2 hx2 f9_2
                  have hHeld := unhide hk3
                  obtain ⟨b10, hb10⟩ : ∃ b, b = wz2.heap.size := ⟨_, rfl⟩
                  rw [← hb10] at g10 f10_3 lhv_10 lhx_10 l9_10 ⊢
                  clear hb10
                  refine wpAnyH_ready (rs := [5]) (by kernel_rfl) (by simp) ?_
                  refine AllReadyH.cons (i := 5) (o := { dst := some 83, op := Op.call { callee := Callee.value (Operand.func 10), args := #[Operand.tmp 78, Operand.tmp 79, Operand.tmp 82], argTypes := #[2, 25, 25] }, type := 31, pos := _, after := _, guard := none }) rfl (fun K hK => ?_) AllReadyH.nil
                  go_simp
                  refine (op_any k al ah (joinL bl bh dl dh) (joinH bl bh dl dh) k0 k4 (unhide HI).1.1 (unhide HI).1.2.1 (unhide HJ).2.1 (unhide HJ).2.2.1 _).mono ?_
                  rintro e wz4 ⟨rfl, hb4⟩
                  rw [← unhide HU]
                  have hk4 := hide (S8.call hb4 (unhide hk3))
                  have hv4 := hide (C4.call hb4 (unhide hv3))
                  have hx4 := hide (C4.call hb4 (unhide hx3))
                  have f9_4 := hide (C4.call hb4 (unhide f9_3))
                  have f10_4 := hide (C4.call hb4 (unhide f10_3))
                  clear hb4 hv3 hx3 f9_3 f10_3
                  refine hK.out _ _ (unhide hk4) (fun hHeld => ?_)
                  clear hK K
                  try simp only [Act.put, List.setIfInBounds_toArray, List.set_cons_zero, List.set_cons_succ]
                  refine wpAnyH_take (i := 6) (oi := { dst := some 77, op := Op.move (Operand.tmp 83), type := 31, pos := _, after := _, guard := none }) (v := ?_) rfl (by kernel_rfl) (by kernel_rfl) (by kernel_rfl) (fun _ _ _ h => h) (Or.inl ⟨by rfl, ?_⟩) (by assumption) ?_
                  rotate_left
                  · (intro w hSw; (try dsimp only at hSw); go_simp; try with_reducible rfl)
                  try simp only [Act.put, List.setIfInBounds_toArray, List.set_cons_zero, List.set_cons_succ]
                  refine wpAnyH_take (i := 7) (oi := { dst := some 84, op := Op.extract (Operand.tmp 77) 0, type := 30, pos := _, after := _, guard := none }) (v := ?_) rfl (by kernel_rfl) (by kernel_rfl) (by kernel_rfl) (fun _ _ _ h => h) (Or.inl ⟨by rfl, ?_⟩) (by assumption) ?_
                  rotate_left
                  · (intro w hSw; (try dsimp only at hSw); go_simp; try with_reducible rfl)
                  try simp only [Act.put, List.setIfInBounds_toArray, List.set_cons_zero, List.set_cons_succ]
                  refine wpAnyH_take (i := 8) (oi := { dst := some 85, op := Op.extract (Operand.tmp 77) 1, type := 30, pos := _, after := _, guard := none }) (v := ?_) rfl (by kernel_rfl) (by kernel_rfl) (by kernel_rfl) (fun _ _ _ h => h) (Or.inl ⟨by rfl, ?_⟩) (by assumption) ?_
                  rotate_left
                  · (intro w hSw; (try dsimp only at hSw); go_simp; try with_reducible rfl)
                  try simp only [Act.put, List.setIfInBounds_toArray, List.set_cons_zero, List.set_cons_succ]
                  refine wpAnyH_ready (rs := [11]) (by kernel_rfl) (by simp) ?_
                  refine AllReadyH.cons (i := 11) (o := { dst := none, op := Op.store 30 (Operand.tmp 14) (Operand.tmp 84), type := 0, pos := _, after := _, guard := none }) rfl (fun K hK => ?_) AllReadyH.nil
                  obtain ⟨⟨c0, c1, c2, c3⟩, c4, c5⟩ := unhide f9_4
                  go_simp
                  refine hK.out _ _ ?_ (fun hHeld => ?_)
                  · exact S8.put (unhide hk4) (unhide g9) _ _ _ _
                  clear hK K c0 c1 c2 c3 c4 c5 hHeld
                  try simp only [Act.put, List.setIfInBounds_toArray, List.set_cons_zero, List.set_cons_succ]
                  have hk5 := hide (S8.put (unhide hk4) (unhide g9) (.int .i64 U.lo) (.int .i64 U.hi) (.bool U.live) (.int .i64 U.al))
                  have f9_5 := hide (C4.put (x' := U.lo) (y' := U.hi) (l' := U.live) (u' := U.al) (unhide f9_4))
                  have f10_5 := hide (C4.far (c := b9) (unhide f10_4) (by omega) (.int .i64 U.lo) (.int .i64 U.hi) (.bool U.live) (.int .i64 U.al))
                  have hv5 := hide (C4.far (c := b9) (unhide hv4) (by omega) (.int .i64 U.lo) (.int .i64 U.hi) (.bool U.live) (.int .i64 U.al))
                  have hx5 := hide (C4.far (c := b9) (unhide hx4) (by omega) (.int .i64 U.lo) (.int .i64 U.hi) (.bool U.live) (.int .i64 U.al))
                  obtain ⟨wz5, hw⟩ : ∃ x, x = (((wz4.setCell ⟨b9, 0, none⟩ (.int .i64 U.lo)).setCell ⟨b9, 1, none⟩ (.int .i64 U.hi)).setCell ⟨b9, 2, none⟩ (.bool U.live)).setCell ⟨b9, 3, none⟩ (.int .i64 U.al) := ⟨_, rfl⟩
                  rw [← hw] at hk5 f9_5 f10_5 hv5 hx5 ⊢
                  clear hw
                  have hHeld := unhide hk5
                  refine wpAnyH_ready (rs := [12]) (by kernel_rfl) (by simp) ?_
                  refine AllReadyH.cons (i := 12) (o := { dst := none, op := Op.store 30 (Operand.tmp 15) (Operand.tmp 85), type := 0, pos := _, after := _, guard := none }) rfl (fun K hK => ?_) AllReadyH.nil
                  obtain ⟨⟨c0, c1, c2, c3⟩, c4, c5⟩ := unhide f10_5
                  go_simp
                  refine hK.out _ _ ?_ (fun hHeld => ?_)
                  · exact S8.put (unhide hk5) (unhide g10) _ _ _ _
                  clear hK K c0 c1 c2 c3 c4 c5 hHeld
                  try simp only [Act.put, List.setIfInBounds_toArray, List.set_cons_zero, List.set_cons_succ]
                  have hk6 := hide (S8.put (unhide hk5) (unhide g10) (.int .i64 U.lo) (.int .i64 U.hi) (.bool U.live) (.int .i64 U.al))
                  have f10_6 := hide (C4.put (x' := U.lo) (y' := U.hi) (l' := U.live) (u' := U.al) (unhide f10_5))
                  have f9_6 := hide (C4.far (c := b10) (unhide f9_5) (by omega) (.int .i64 U.lo) (.int .i64 U.hi) (.bool U.live) (.int .i64 U.al))
                  have hv6 := hide (C4.far (c := b10) (unhide hv5) (by omega) (.int .i64 U.lo) (.int .i64 U.hi) (.bool U.live) (.int .i64 U.al))
                  have hx6 := hide (C4.far (c := b10) (unhide hx5) (by omega) (.int .i64 U.lo) (.int .i64 U.hi) (.bool U.live) (.int .i64 U.al))
                  obtain ⟨wz6, hw⟩ : ∃ x, x = (((wz5.setCell ⟨b10, 0, none⟩ (.int .i64 U.lo)).setCell ⟨b10, 1, none⟩ (.int .i64 U.hi)).setCell ⟨b10, 2, none⟩ (.bool U.live)).setCell ⟨b10, 3, none⟩ (.int .i64 U.al) := ⟨_, rfl⟩
                  rw [← hw] at hk6 f9_6 f10_6 hv6 hx6 ⊢
                  clear hw
                  have hHeld := unhide hk6
                  refine wpAnyH_done (by kernel_rfl) ?_ _
                  go_wp2_with fail
                  go_meet
                  exact ⟨b9, rfl, unhide f9_6, unhide hv6, unhide hx6, unhide hk6⟩
              · have g10 := hide (FB.of (unhide hk1))
                have f10_2 := hide (C4.new wz1 0 0 false 0 30)
                have hk2 := hide (S8.alloc (unhide hk1) (Obj.cells #[.int .i64 0, .int .i64 0, .bool false, .int .i64 0] 30))
                have hv2 := hide (C4.call ((Below.refl _ _).alloc (Nat.le_refl _) (Obj.cells #[.int .i64 0, .int .i64 0, .bool false, .int .i64 0] 30)) (unhide hv1))
                have hx2 := hide (C4.call ((Below.refl _ _).alloc (Nat.le_refl _) (Obj.cells #[.int .i64 0, .int .i64 0, .bool false, .int .i64 0] 30)) (unhide hx1))
                have f9_2 := hide (C4.call ((Below.refl _ _).alloc (Nat.le_refl _) (Obj.cells #[.int .i64 0, .int .i64 0, .bool false, .int .i64 0] 30)) (unhide f9_1))
                have lhv_10 : C < wz1.heap.size := (unhide hv1).2.1
                have lhx_10 : D < wz1.heap.size := (unhide hx1).2.1
                have l9_10 : b9 < wz1.heap.size := (unhide f9_1).2.1
                go_simp
                refine hK.out _ _ (unhide hk2) (fun hHeld => ?_)
                clear hK K
                try simp only [Act.put, List.setIfInBounds_toArray, List.set_cons_zero, List.set_cons_succ]
                clear hHeld
                generalize hg : wz1.alloc (Obj.cells #[.int .i64 0, .int .i64 0, .bool false, .int .i64 0] 30) = wz2 at hk2 f10_2 hv2 hx2 f9_2 ⊢
                clear hg hk1 hv1 hx1 f9_1
                have hHeld := unhide hk2
                obtain ⟨b10, hb10⟩ : ∃ b, b = wz1.heap.size := ⟨_, rfl⟩
                rw [← hb10] at g10 f10_2 lhv_10 lhx_10 l9_10 ⊢
                clear hb10
                refine wpAnyH_ready (rs := [4]) (by kernel_rfl) (by simp) ?_
                refine AllReadyH.cons (i := 4) (o := { dst := some 82, op := Op.call { callee := Callee.value (Operand.func 17), args := #[Operand.tmp 80, Operand.tmp 81], argTypes := #[25, 25] }, type := 25, pos := _, after := _, guard := none }) rfl (fun K hK => ?_) AllReadyH.nil
                go_simp
                refine (sIvJoin_c _ _ _ _ _).mono ?_
                rintro e wz3 ⟨rfl, hb3⟩
                have hk3 := hide (S8.call hb3 (unhide hk2))
                have hv3 := hide (C4.call hb3 (unhide hv2))
                have hx3 := hide (C4.call hb3 (unhide hx2))
                have f9_3 := hide (C4.call hb3 (unhide f9_2))
                have f10_3 := hide (C4.call hb3 (unhide f10_2))
                clear hb3 hv2 hx2 f9_2 f10_2
                refine hK.out _ _ (unhide hk3) (fun hHeld => ?_)
                clear hK K
                try simp only [Act.put, List.setIfInBounds_toArray, List.set_cons_zero, List.set_cons_succ]
                refine wpAnyH_ready (rs := [5]) (by kernel_rfl) (by simp) ?_
                refine AllReadyH.cons (i := 5) (o := { dst := some 83, op := Op.call { callee := Callee.value (Operand.func 10), args := #[Operand.tmp 78, Operand.tmp 79, Operand.tmp 82], argTypes := #[2, 25, 25] }, type := 31, pos := _, after := _, guard := none }) rfl (fun K hK => ?_) AllReadyH.nil
                go_simp
                refine (op_any k al ah (joinL bl bh dl dh) (joinH bl bh dl dh) k0 k4 (unhide HI).1.1 (unhide HI).1.2.1 (unhide HJ).2.1 (unhide HJ).2.2.1 _).mono ?_
                rintro e wz4 ⟨rfl, hb4⟩
                rw [← unhide HU]
                have hk4 := hide (S8.call hb4 (unhide hk3))
                have hv4 := hide (C4.call hb4 (unhide hv3))
                have hx4 := hide (C4.call hb4 (unhide hx3))
                have f9_4 := hide (C4.call hb4 (unhide f9_3))
                have f10_4 := hide (C4.call hb4 (unhide f10_3))
                clear hb4 hv3 hx3 f9_3 f10_3
                refine hK.out _ _ (unhide hk4) (fun hHeld => ?_)
                clear hK K
                try simp only [Act.put, List.setIfInBounds_toArray, List.set_cons_zero, List.set_cons_succ]
                refine wpAnyH_take (i := 6) (oi := { dst := some 77, op := Op.move (Operand.tmp 83), type := 31, pos := _, after := _, guard := none }) (v := ?_) rfl (by kernel_rfl) (by kernel_rfl) (by kernel_rfl) (fun _ _ _ h => h) (Or.inl ⟨by rfl, ?_⟩) (by assumption) ?_
                rotate_left
                · (intro w hSw; (try dsimp only at hSw); go_simp; try with_reducible rfl)
                try simp only [Act.put, List.setIfInBounds_toArray, List.set_cons_zero, List.set_cons_succ]
                refine wpAnyH_take (i := 7) (oi := { dst := some 84, op := Op.extract (Operand.tmp 77) 0, type := 30, pos := _, after := _, guard := none }) (v := ?_) rfl (by kernel_rfl) (by kernel_rfl) (by kernel_rfl) (fun _ _ _ h => h) (Or.inl ⟨by rfl, ?_⟩) (by assumption) ?_
                rotate_left
                · (intro w hSw; (try dsimp only at hSw); go_simp; try with_reducible rfl)
                try simp only [Act.put, List.setIfInBounds_toArray, List.set_cons_zero, List.set_cons_succ]
                refine wpAnyH_take (i := 8) (oi := { dst := some 85, op := Op.extract (Operand.tmp 77) 1, type := 30, pos := _, after := _, guard := none }) (v := ?_) rfl (by kernel_rfl) (by kernel_rfl) (by kernel_rfl) (fun _ _ _ h => h) (Or.inl ⟨by rfl, ?_⟩) (by assumption) ?_
                rotate_left
                · (intro w hSw; (try dsimp only at hSw); go_simp; try with_reducible rfl)
                try simp only [Act.put, List.setIfInBounds_toArray, List.set_cons_zero, List.set_cons_succ]
                refine wpAnyH_ready (rs := [11]) (by kernel_rfl) (by simp) ?_
                refine AllReadyH.cons (i := 11) (o := { dst := none, op := Op.store 30 (Operand.tmp 14) (Operand.tmp 84), type := 0, pos := _, after := _, guard := none }) rfl (fun K hK => ?_) AllReadyH.nil
                obtain ⟨⟨c0, c1, c2, c3⟩, c4, c5⟩ := unhide f9_4
                go_simp
                refine hK.out _ _ ?_ (fun hHeld => ?_)
                · exact S8.put (unhide hk4) (unhide g9) _ _ _ _
                clear hK K c0 c1 c2 c3 c4 c5 hHeld
                try simp only [Act.put, List.setIfInBounds_toArray, List.set_cons_zero, List.set_cons_succ]
                have hk5 := hide (S8.put (unhide hk4) (unhide g9) (.int .i64 U.lo) (.int .i64 U.hi) (.bool U.live) (.int .i64 U.al))
                have f9_5 := hide (C4.put (x' := U.lo) (y' := U.hi) (l' := U.live) (u' := U.al) (unhide f9_4))
                have f10_5 := hide (C4.far (c := b9) (unhide f10_4) (by omega) (.int .i64 U.lo) (.int .i64 U.hi) (.bool U.live) (.int .i64 U.al))
                have hv5 := hide (C4.far (c := b9) (unhide hv4) (by omega) (.int .i64 U.lo) (.int .i64 U.hi) (.bool U.live) (.int .i64 U.al))
                have hx5 := hide (C4.far (c := b9) (unhide hx4) (by omega) (.int .i64 U.lo) (.int .i64 U.hi) (.bool U.live) (.int .i64 U.al))
                obtain ⟨wz5, hw⟩ : ∃ x, x = (((wz4.setCell ⟨b9, 0, none⟩ (.int .i64 U.lo)).setCell ⟨b9, 1, none⟩ (.int .i64 U.hi)).setCell ⟨b9, 2, none⟩ (.bool U.live)).setCell ⟨b9, 3, none⟩ (.int .i64 U.al) := ⟨_, rfl⟩
                rw [← hw] at hk5 f9_5 f10_5 hv5 hx5 ⊢
                clear hw
                have hHeld := unhide hk5
                refine wpAnyH_ready (rs := [12]) (by kernel_rfl) (by simp) ?_
                refine AllReadyH.cons (i := 12) (o := { dst := none, op := Op.store 30 (Operand.tmp 15) (Operand.tmp 85), type := 0, pos := _, after := _, guard := none }) rfl (fun K hK => ?_) AllReadyH.nil
                obtain ⟨⟨c0, c1, c2, c3⟩, c4, c5⟩ := unhide f10_5
                go_simp
                refine hK.out _ _ ?_ (fun hHeld => ?_)
                · exact S8.put (unhide hk5) (unhide g10) _ _ _ _
                clear hK K c0 c1 c2 c3 c4 c5 hHeld
                try simp only [Act.put, List.setIfInBounds_toArray, List.set_cons_zero, List.set_cons_succ]
                have hk6 := hide (S8.put (unhide hk5) (unhide g10) (.int .i64 U.lo) (.int .i64 U.hi) (.bool U.live) (.int .i64 U.al))
                have f10_6 := hide (C4.put (x' := U.lo) (y' := U.hi) (l' := U.live) (u' := U.al) (unhide f10_5))
                have f9_6 := hide (C4.far (c := b10) (unhide f9_5) (by omega) (.int .i64 U.lo) (.int .i64 U.hi) (.bool U.live) (.int .i64 U.al))
                have hv6 := hide (C4.far (c := b10) (unhide hv5) (by omega) (.int .i64 U.lo) (.int .i64 U.hi) (.bool U.live) (.int .i64 U.al))
                have hx6 := hide (C4.far (c := b10) (unhide hx5) (by omega) (.int .i64 U.lo) (.int .i64 U.hi) (.bool U.live) (.int .i64 U.al))
                obtain ⟨wz6, hw⟩ : ∃ x, x = (((wz5.setCell ⟨b10, 0, none⟩ (.int .i64 U.lo)).setCell ⟨b10, 1, none⟩ (.int .i64 U.hi)).setCell ⟨b10, 2, none⟩ (.bool U.live)).setCell ⟨b10, 3, none⟩ (.int .i64 U.al) := ⟨_, rfl⟩
                rw [← hw] at hk6 f9_6 f10_6 hv6 hx6 ⊢
                clear hw
                have hHeld := unhide hk6
                refine wpAnyH_done (by kernel_rfl) ?_ _
                go_wp2_with fail
                go_meet
                exact ⟨b9, rfl, unhide f9_6, unhide hv6, unhide hx6, unhide hk6⟩
            · have g10 := hide (FB.of (unhide hk0))
              have f10_1 := hide (C4.new wz0 0 0 false 0 30)
              have hk1 := hide (S8.alloc (unhide hk0) (Obj.cells #[.int .i64 0, .int .i64 0, .bool false, .int .i64 0] 30))
              have hv1 := hide (C4.call ((Below.refl _ _).alloc (Nat.le_refl _) (Obj.cells #[.int .i64 0, .int .i64 0, .bool false, .int .i64 0] 30)) (unhide hv0))
              have hx1 := hide (C4.call ((Below.refl _ _).alloc (Nat.le_refl _) (Obj.cells #[.int .i64 0, .int .i64 0, .bool false, .int .i64 0] 30)) (unhide hx0))
              have lhv_10 : C < wz0.heap.size := (unhide hv0).2.1
              have lhx_10 : D < wz0.heap.size := (unhide hx0).2.1
              go_simp
              refine hK.out _ _ (unhide hk1) (fun hHeld => ?_)
              clear hK K
              try simp only [Act.put, List.setIfInBounds_toArray, List.set_cons_zero, List.set_cons_succ]
              clear hHeld
              generalize hg : wz0.alloc (Obj.cells #[.int .i64 0, .int .i64 0, .bool false, .int .i64 0] 30) = wz1 at hk1 f10_1 hv1 hx1 ⊢
              clear hg hk0 hv0 hx0
              have hHeld := unhide hk1
              obtain ⟨b10, hb10⟩ : ∃ b, b = wz0.heap.size := ⟨_, rfl⟩
              rw [← hb10] at g10 f10_1 lhv_10 lhx_10 ⊢
              clear hb10
              refine wpAnyH_ready (rs := [4, 9]) (by kernel_rfl) (by simp) ?_
              refine AllReadyH.cons (i := 4) (o := { dst := some 82, op := Op.call { callee := Callee.value (Operand.func 17), args := #[Operand.tmp 80, Operand.tmp 81], argTypes := #[25, 25] }, type := 25, pos := _, after := _, guard := none }) rfl (fun K hK => ?_) (AllReadyH.cons (i := 9) (o := { dst := some 14, op := Op.alloc 30, type := 0, pos := _, after := _, guard := none }) rfl (fun K hK => ?_) AllReadyH.nil)
              · go_simp
                refine (sIvJoin_c _ _ _ _ _).mono ?_
                rintro e wz2 ⟨rfl, hb2⟩
                have hk2 := hide (S8.call hb2 (unhide hk1))
                have hv2 := hide (C4.call hb2 (unhide hv1))
                have hx2 := hide (C4.call hb2 (unhide hx1))
                have f10_2 := hide (C4.call hb2 (unhide f10_1))
                clear hb2 hv1 hx1 f10_1
                refine hK.out _ _ (unhide hk2) (fun hHeld => ?_)
                clear hK K
                try simp only [Act.put, List.setIfInBounds_toArray, List.set_cons_zero, List.set_cons_succ]
                refine wpAnyH_ready (rs := [5, 9]) (by kernel_rfl) (by simp) ?_
                refine AllReadyH.cons (i := 5) (o := { dst := some 83, op := Op.call { callee := Callee.value (Operand.func 10), args := #[Operand.tmp 78, Operand.tmp 79, Operand.tmp 82], argTypes := #[2, 25, 25] }, type := 31, pos := _, after := _, guard := none }) rfl (fun K hK => ?_) (AllReadyH.cons (i := 9) (o := { dst := some 14, op := Op.alloc 30, type := 0, pos := _, after := _, guard := none }) rfl (fun K hK => ?_) AllReadyH.nil)
                · go_simp
                  refine (op_any k al ah (joinL bl bh dl dh) (joinH bl bh dl dh) k0 k4 (unhide HI).1.1 (unhide HI).1.2.1 (unhide HJ).2.1 (unhide HJ).2.2.1 _).mono ?_
                  rintro e wz3 ⟨rfl, hb3⟩
                  rw [← unhide HU]
                  have hk3 := hide (S8.call hb3 (unhide hk2))
                  have hv3 := hide (C4.call hb3 (unhide hv2))
                  have hx3 := hide (C4.call hb3 (unhide hx2))
                  have f10_3 := hide (C4.call hb3 (unhide f10_2))
                  clear hb3 hv2 hx2 f10_2
                  refine hK.out _ _ (unhide hk3) (fun hHeld => ?_)
                  clear hK K
                  try simp only [Act.put, List.setIfInBounds_toArray, List.set_cons_zero, List.set_cons_succ]
                  refine wpAnyH_take (i := 6) (oi := { dst := some 77, op := Op.move (Operand.tmp 83), type := 31, pos := _, after := _, guard := none }) (v := ?_) rfl (by kernel_rfl) (by kernel_rfl) (by kernel_rfl) (fun _ _ _ h => h) (Or.inl ⟨by rfl, ?_⟩) (by assumption) ?_
                  rotate_left
                  · (intro w hSw; (try dsimp only at hSw); go_simp; try with_reducible rfl)
                  try simp only [Act.put, List.setIfInBounds_toArray, List.set_cons_zero, List.set_cons_succ]
                  refine wpAnyH_take (i := 7) (oi := { dst := some 84, op := Op.extract (Operand.tmp 77) 0, type := 30, pos := _, after := _, guard := none }) (v := ?_) rfl (by kernel_rfl) (by kernel_rfl) (by kernel_rfl) (fun _ _ _ h => h) (Or.inl ⟨by rfl, ?_⟩) (by assumption) ?_
                  rotate_left
                  · (intro w hSw; (try dsimp only at hSw); go_simp; try with_reducible rfl)
                  try simp only [Act.put, List.setIfInBounds_toArray, List.set_cons_zero, List.set_cons_succ]
                  refine wpAnyH_take (i := 8) (oi := { dst := some 85, op := Op.extract (Operand.tmp 77) 1, type := 30, pos := _, after := _, guard := none }) (v := ?_) rfl (by kernel_rfl) (by kernel_rfl) (by kernel_rfl) (fun _ _ _ h => h) (Or.inl ⟨by rfl, ?_⟩) (by assumption) ?_
                  rotate_left
                  · (intro w hSw; (try dsimp only at hSw); go_simp; try with_reducible rfl)
                  try simp only [Act.put, List.setIfInBounds_toArray, List.set_cons_zero, List.set_cons_succ]
                  refine wpAnyH_ready (rs := [9]) (by kernel_rfl) (by simp) ?_
                  refine AllReadyH.cons (i := 9) (o := { dst := some 14, op := Op.alloc 30, type := 0, pos := _, after := _, guard := none }) rfl (fun K hK => ?_) AllReadyH.nil
                  have g9 := hide (FB.of (unhide hk3))
                  have f9_4 := hide (C4.new wz3 0 0 false 0 30)
                  have hk4 := hide (S8.alloc (unhide hk3) (Obj.cells #[.int .i64 0, .int .i64 0, .bool false, .int .i64 0] 30))
                  have hv4 := hide (C4.call ((Below.refl _ _).alloc (Nat.le_refl _) (Obj.cells #[.int .i64 0, .int .i64 0, .bool false, .int .i64 0] 30)) (unhide hv3))
                  have hx4 := hide (C4.call ((Below.refl _ _).alloc (Nat.le_refl _) (Obj.cells #[.int .i64 0, .int .i64 0, .bool false, .int .i64 0] 30)) (unhide hx3))
                  have f10_4 := hide (C4.call ((Below.refl _ _).alloc (Nat.le_refl _) (Obj.cells #[.int .i64 0, .int .i64 0, .bool false, .int .i64 0] 30)) (unhide f10_3))
                  have lhv_9 : C < wz3.heap.size := (unhide hv3).2.1
                  have lhx_9 : D < wz3.heap.size := (unhide hx3).2.1
                  have l10_9 : b10 < wz3.heap.size := (unhide f10_3).2.1
                  go_simp
                  refine hK.out _ _ (unhide hk4) (fun hHeld => ?_)
                  clear hK K
                  try simp only [Act.put, List.setIfInBounds_toArray, List.set_cons_zero, List.set_cons_succ]
                  clear hHeld
                  generalize hg : wz3.alloc (Obj.cells #[.int .i64 0, .int .i64 0, .bool false, .int .i64 0] 30) = wz4 at hk4 f9_4 hv4 hx4 f10_4 ⊢
                  clear hg hk3 hv3 hx3 f10_3
                  have hHeld := unhide hk4
                  obtain ⟨b9, hb9⟩ : ∃ b, b = wz3.heap.size := ⟨_, rfl⟩
                  rw [← hb9] at g9 f9_4 lhv_9 lhx_9 l10_9 ⊢
                  clear hb9
                  refine wpAnyH_ready (rs := [11]) (by kernel_rfl) (by simp) ?_
                  refine AllReadyH.cons (i := 11) (o := { dst := none, op := Op.store 30 (Operand.tmp 14) (Operand.tmp 84), type := 0, pos := _, after := _, guard := none }) rfl (fun K hK => ?_) AllReadyH.nil
                  obtain ⟨⟨c0, c1, c2, c3⟩, c4, c5⟩ := unhide f9_4
                  go_simp
                  refine hK.out _ _ ?_ (fun hHeld => ?_)
                  · exact S8.put (unhide hk4) (unhide g9) _ _ _ _
                  clear hK K c0 c1 c2 c3 c4 c5 hHeld
                  try simp only [Act.put, List.setIfInBounds_toArray, List.set_cons_zero, List.set_cons_succ]
                  have hk5 := hide (S8.put (unhide hk4) (unhide g9) (.int .i64 U.lo) (.int .i64 U.hi) (.bool U.live) (.int .i64 U.al))
                  have f9_5 := hide (C4.put (x' := U.lo) (y' := U.hi) (l' := U.live) (u' := U.al) (unhide f9_4))
                  have f10_5 := hide (C4.far (c := b9) (unhide f10_4) (by omega) (.int .i64 U.lo) (.int .i64 U.hi) (.bool U.live) (.int .i64 U.al))
                  have hv5 := hide (C4.far (c := b9) (unhide hv4) (by omega) (.int .i64 U.lo) (.int .i64 U.hi) (.bool U.live) (.int .i64 U.al))
                  have hx5 := hide (C4.far (c := b9) (unhide hx4) (by omega) (.int .i64 U.lo) (.int .i64 U.hi) (.bool U.live) (.int .i64 U.al))
                  obtain ⟨wz5, hw⟩ : ∃ x, x = (((wz4.setCell ⟨b9, 0, none⟩ (.int .i64 U.lo)).setCell ⟨b9, 1, none⟩ (.int .i64 U.hi)).setCell ⟨b9, 2, none⟩ (.bool U.live)).setCell ⟨b9, 3, none⟩ (.int .i64 U.al) := ⟨_, rfl⟩
                  rw [← hw] at hk5 f9_5 f10_5 hv5 hx5 ⊢
                  clear hw
                  have hHeld := unhide hk5
                  refine wpAnyH_ready (rs := [12]) (by kernel_rfl) (by simp) ?_
                  refine AllReadyH.cons (i := 12) (o := { dst := none, op := Op.store 30 (Operand.tmp 15) (Operand.tmp 85), type := 0, pos := _, after := _, guard := none }) rfl (fun K hK => ?_) AllReadyH.nil
                  obtain ⟨⟨c0, c1, c2, c3⟩, c4, c5⟩ := unhide f10_5
                  go_simp
                  refine hK.out _ _ ?_ (fun hHeld => ?_)
                  · exact S8.put (unhide hk5) (unhide g10) _ _ _ _
                  clear hK K c0 c1 c2 c3 c4 c5 hHeld
                  try simp only [Act.put, List.setIfInBounds_toArray, List.set_cons_zero, List.set_cons_succ]
                  have hk6 := hide (S8.put (unhide hk5) (unhide g10) (.int .i64 U.lo) (.int .i64 U.hi) (.bool U.live) (.int .i64 U.al))
                  have f10_6 := hide (C4.put (x' := U.lo) (y' := U.hi) (l' := U.live) (u' := U.al) (unhide f10_5))
                  have f9_6 := hide (C4.far (c := b10) (unhide f9_5) (by omega) (.int .i64 U.lo) (.int .i64 U.hi) (.bool U.live) (.int .i64 U.al))
                  have hv6 := hide (C4.far (c := b10) (unhide hv5) (by omega) (.int .i64 U.lo) (.int .i64 U.hi) (.bool U.live) (.int .i64 U.al))
                  have hx6 := hide (C4.far (c := b10) (unhide hx5) (by omega) (.int .i64 U.lo) (.int .i64 U.hi) (.bool U.live) (.int .i64 U.al))
                  obtain ⟨wz6, hw⟩ : ∃ x, x = (((wz5.setCell ⟨b10, 0, none⟩ (.int .i64 U.lo)).setCell ⟨b10, 1, none⟩ (.int .i64 U.hi)).setCell ⟨b10, 2, none⟩ (.bool U.live)).setCell ⟨b10, 3, none⟩ (.int .i64 U.al) := ⟨_, rfl⟩
                  rw [← hw] at hk6 f9_6 f10_6 hv6 hx6 ⊢
                  clear hw
                  have hHeld := unhide hk6
                  refine wpAnyH_done (by kernel_rfl) ?_ _
                  go_wp2_with fail
                  go_meet
                  exact ⟨b9, rfl, unhide f9_6, unhide hv6, unhide hx6, unhide hk6⟩
                · have g9 := hide (FB.of (unhide hk2))
                  have f9_3 := hide (C4.new wz2 0 0 false 0 30)
                  have hk3 := hide (S8.alloc (unhide hk2) (Obj.cells #[.int .i64 0, .int .i64 0, .bool false, .int .i64 0] 30))
                  have hv3 := hide (C4.call ((Below.refl _ _).alloc (Nat.le_refl _) (Obj.cells #[.int .i64 0, .int .i64 0, .bool false, .int .i64 0] 30)) (unhide hv2))
                  have hx3 := hide (C4.call ((Below.refl _ _).alloc (Nat.le_refl _) (Obj.cells #[.int .i64 0, .int .i64 0, .bool false, .int .i64 0] 30)) (unhide hx2))
                  have f10_3 := hide (C4.call ((Below.refl _ _).alloc (Nat.le_refl _) (Obj.cells #[.int .i64 0, .int .i64 0, .bool false, .int .i64 0] 30)) (unhide f10_2))
                  have lhv_9 : C < wz2.heap.size := (unhide hv2).2.1
                  have lhx_9 : D < wz2.heap.size := (unhide hx2).2.1
                  have l10_9 : b10 < wz2.heap.size := (unhide f10_2).2.1
                  go_simp
                  refine hK.out _ _ (unhide hk3) (fun hHeld => ?_)
                  clear hK K
                  try simp only [Act.put, List.setIfInBounds_toArray, List.set_cons_zero, List.set_cons_succ]
                  clear hHeld
                  generalize hg : wz2.alloc (Obj.cells #[.int .i64 0, .int .i64 0, .bool false, .int .i64 0] 30) = wz3 at hk3 f9_3 hv3 hx3 f10_3 ⊢
                  clear hg hk2 hv2 hx2 f10_2
                  have hHeld := unhide hk3
                  obtain ⟨b9, hb9⟩ : ∃ b, b = wz2.heap.size := ⟨_, rfl⟩
                  rw [← hb9] at g9 f9_3 lhv_9 lhx_9 l10_9 ⊢
                  clear hb9
                  refine wpAnyH_ready (rs := [5]) (by kernel_rfl) (by simp) ?_
                  refine AllReadyH.cons (i := 5) (o := { dst := some 83, op := Op.call { callee := Callee.value (Operand.func 10), args := #[Operand.tmp 78, Operand.tmp 79, Operand.tmp 82], argTypes := #[2, 25, 25] }, type := 31, pos := _, after := _, guard := none }) rfl (fun K hK => ?_) AllReadyH.nil
                  go_simp
                  refine (op_any k al ah (joinL bl bh dl dh) (joinH bl bh dl dh) k0 k4 (unhide HI).1.1 (unhide HI).1.2.1 (unhide HJ).2.1 (unhide HJ).2.2.1 _).mono ?_
                  rintro e wz4 ⟨rfl, hb4⟩
                  rw [← unhide HU]
                  have hk4 := hide (S8.call hb4 (unhide hk3))
                  have hv4 := hide (C4.call hb4 (unhide hv3))
                  have hx4 := hide (C4.call hb4 (unhide hx3))
                  have f10_4 := hide (C4.call hb4 (unhide f10_3))
                  have f9_4 := hide (C4.call hb4 (unhide f9_3))
                  clear hb4 hv3 hx3 f10_3 f9_3
                  refine hK.out _ _ (unhide hk4) (fun hHeld => ?_)
                  clear hK K
                  try simp only [Act.put, List.setIfInBounds_toArray, List.set_cons_zero, List.set_cons_succ]
                  refine wpAnyH_take (i := 6) (oi := { dst := some 77, op := Op.move (Operand.tmp 83), type := 31, pos := _, after := _, guard := none }) (v := ?_) rfl (by kernel_rfl) (by kernel_rfl) (by kernel_rfl) (fun _ _ _ h => h) (Or.inl ⟨by rfl, ?_⟩) (by assumption) ?_
                  rotate_left
                  · (intro w hSw; (try dsimp only at hSw); go_simp; try with_reducible rfl)
                  try simp only [Act.put, List.setIfInBounds_toArray, List.set_cons_zero, List.set_cons_succ]
                  refine wpAnyH_take (i := 7) (oi := { dst := some 84, op := Op.extract (Operand.tmp 77) 0, type := 30, pos := _, after := _, guard := none }) (v := ?_) rfl (by kernel_rfl) (by kernel_rfl) (by kernel_rfl) (fun _ _ _ h => h) (Or.inl ⟨by rfl, ?_⟩) (by assumption) ?_
                  rotate_left
                  · (intro w hSw; (try dsimp only at hSw); go_simp; try with_reducible rfl)
                  try simp only [Act.put, List.setIfInBounds_toArray, List.set_cons_zero, List.set_cons_succ]
                  refine wpAnyH_take (i := 8) (oi := { dst := some 85, op := Op.extract (Operand.tmp 77) 1, type := 30, pos := _, after := _, guard := none }) (v := ?_) rfl (by kernel_rfl) (by kernel_rfl) (by kernel_rfl) (fun _ _ _ h => h) (Or.inl ⟨by rfl, ?_⟩) (by assumption) ?_
                  rotate_left
                  · (intro w hSw; (try dsimp only at hSw); go_simp; try with_reducible rfl)
                  try simp only [Act.put, List.setIfInBounds_toArray, List.set_cons_zero, List.set_cons_succ]
                  refine wpAnyH_ready (rs := [11]) (by kernel_rfl) (by simp) ?_
                  refine AllReadyH.cons (i := 11) (o := { dst := none, op := Op.store 30 (Operand.tmp 14) (Operand.tmp 84), type := 0, pos := _, after := _, guard := none }) rfl (fun K hK => ?_) AllReadyH.nil
                  obtain ⟨⟨c0, c1, c2, c3⟩, c4, c5⟩ := unhide f9_4
                  go_simp
                  refine hK.out _ _ ?_ (fun hHeld => ?_)
                  · exact S8.put (unhide hk4) (unhide g9) _ _ _ _
                  clear hK K c0 c1 c2 c3 c4 c5 hHeld
                  try simp only [Act.put, List.setIfInBounds_toArray, List.set_cons_zero, List.set_cons_succ]
                  have hk5 := hide (S8.put (unhide hk4) (unhide g9) (.int .i64 U.lo) (.int .i64 U.hi) (.bool U.live) (.int .i64 U.al))
                  have f9_5 := hide (C4.put (x' := U.lo) (y' := U.hi) (l' := U.live) (u' := U.al) (unhide f9_4))
                  have f10_5 := hide (C4.far (c := b9) (unhide f10_4) (by omega) (.int .i64 U.lo) (.int .i64 U.hi) (.bool U.live) (.int .i64 U.al))
                  have hv5 := hide (C4.far (c := b9) (unhide hv4) (by omega) (.int .i64 U.lo) (.int .i64 U.hi) (.bool U.live) (.int .i64 U.al))
                  have hx5 := hide (C4.far (c := b9) (unhide hx4) (by omega) (.int .i64 U.lo) (.int .i64 U.hi) (.bool U.live) (.int .i64 U.al))
                  obtain ⟨wz5, hw⟩ : ∃ x, x = (((wz4.setCell ⟨b9, 0, none⟩ (.int .i64 U.lo)).setCell ⟨b9, 1, none⟩ (.int .i64 U.hi)).setCell ⟨b9, 2, none⟩ (.bool U.live)).setCell ⟨b9, 3, none⟩ (.int .i64 U.al) := ⟨_, rfl⟩
                  rw [← hw] at hk5 f9_5 f10_5 hv5 hx5 ⊢
                  clear hw
                  have hHeld := unhide hk5
                  refine wpAnyH_ready (rs := [12]) (by kernel_rfl) (by simp) ?_
                  refine AllReadyH.cons (i := 12) (o := { dst := none, op := Op.store 30 (Operand.tmp 15) (Operand.tmp 85), type := 0, pos := _, after := _, guard := none }) rfl (fun K hK => ?_) AllReadyH.nil
                  obtain ⟨⟨c0, c1, c2, c3⟩, c4, c5⟩ := unhide f10_5
                  go_simp
                  refine hK.out _ _ ?_ (fun hHeld => ?_)
                  · exact S8.put (unhide hk5) (unhide g10) _ _ _ _
                  clear hK K c0 c1 c2 c3 c4 c5 hHeld
                  try simp only [Act.put, List.setIfInBounds_toArray, List.set_cons_zero, List.set_cons_succ]
                  have hk6 := hide (S8.put (unhide hk5) (unhide g10) (.int .i64 U.lo) (.int .i64 U.hi) (.bool U.live) (.int .i64 U.al))
                  have f10_6 := hide (C4.put (x' := U.lo) (y' := U.hi) (l' := U.live) (u' := U.al) (unhide f10_5))
                  have f9_6 := hide (C4.far (c := b10) (unhide f9_5) (by omega) (.int .i64 U.lo) (.int .i64 U.hi) (.bool U.live) (.int .i64 U.al))
                  have hv6 := hide (C4.far (c := b10) (unhide hv5) (by omega) (.int .i64 U.lo) (.int .i64 U.hi) (.bool U.live) (.int .i64 U.al))
                  have hx6 := hide (C4.far (c := b10) (unhide hx5) (by omega) (.int .i64 U.lo) (.int .i64 U.hi) (.bool U.live) (.int .i64 U.al))
                  obtain ⟨wz6, hw⟩ : ∃ x, x = (((wz5.setCell ⟨b10, 0, none⟩ (.int .i64 U.lo)).setCell ⟨b10, 1, none⟩ (.int .i64 U.hi)).setCell ⟨b10, 2, none⟩ (.bool U.live)).setCell ⟨b10, 3, none⟩ (.int .i64 U.al) := ⟨_, rfl⟩
                  rw [← hw] at hk6 f9_6 f10_6 hv6 hx6 ⊢
                  clear hw
                  have hHeld := unhide hk6
                  refine wpAnyH_done (by kernel_rfl) ?_ _
                  go_wp2_with fail
                  go_meet
                  exact ⟨b9, rfl, unhide f9_6, unhide hv6, unhide hx6, unhide hk6⟩
              · have g9 := hide (FB.of (unhide hk1))
                have f9_2 := hide (C4.new wz1 0 0 false 0 30)
                have hk2 := hide (S8.alloc (unhide hk1) (Obj.cells #[.int .i64 0, .int .i64 0, .bool false, .int .i64 0] 30))
                have hv2 := hide (C4.call ((Below.refl _ _).alloc (Nat.le_refl _) (Obj.cells #[.int .i64 0, .int .i64 0, .bool false, .int .i64 0] 30)) (unhide hv1))
                have hx2 := hide (C4.call ((Below.refl _ _).alloc (Nat.le_refl _) (Obj.cells #[.int .i64 0, .int .i64 0, .bool false, .int .i64 0] 30)) (unhide hx1))
                have f10_2 := hide (C4.call ((Below.refl _ _).alloc (Nat.le_refl _) (Obj.cells #[.int .i64 0, .int .i64 0, .bool false, .int .i64 0] 30)) (unhide f10_1))
                have lhv_9 : C < wz1.heap.size := (unhide hv1).2.1
                have lhx_9 : D < wz1.heap.size := (unhide hx1).2.1
                have l10_9 : b10 < wz1.heap.size := (unhide f10_1).2.1
                go_simp
                refine hK.out _ _ (unhide hk2) (fun hHeld => ?_)
                clear hK K
                try simp only [Act.put, List.setIfInBounds_toArray, List.set_cons_zero, List.set_cons_succ]
                clear hHeld
                generalize hg : wz1.alloc (Obj.cells #[.int .i64 0, .int .i64 0, .bool false, .int .i64 0] 30) = wz2 at hk2 f9_2 hv2 hx2 f10_2 ⊢
                clear hg hk1 hv1 hx1 f10_1
                have hHeld := unhide hk2
                obtain ⟨b9, hb9⟩ : ∃ b, b = wz1.heap.size := ⟨_, rfl⟩
                rw [← hb9] at g9 f9_2 lhv_9 lhx_9 l10_9 ⊢
                clear hb9
                refine wpAnyH_ready (rs := [4]) (by kernel_rfl) (by simp) ?_
                refine AllReadyH.cons (i := 4) (o := { dst := some 82, op := Op.call { callee := Callee.value (Operand.func 17), args := #[Operand.tmp 80, Operand.tmp 81], argTypes := #[25, 25] }, type := 25, pos := _, after := _, guard := none }) rfl (fun K hK => ?_) AllReadyH.nil
                go_simp
                refine (sIvJoin_c _ _ _ _ _).mono ?_
                rintro e wz3 ⟨rfl, hb3⟩
                have hk3 := hide (S8.call hb3 (unhide hk2))
                have hv3 := hide (C4.call hb3 (unhide hv2))
                have hx3 := hide (C4.call hb3 (unhide hx2))
                have f10_3 := hide (C4.call hb3 (unhide f10_2))
                have f9_3 := hide (C4.call hb3 (unhide f9_2))
                clear hb3 hv2 hx2 f10_2 f9_2
                refine hK.out _ _ (unhide hk3) (fun hHeld => ?_)
                clear hK K
                try simp only [Act.put, List.setIfInBounds_toArray, List.set_cons_zero, List.set_cons_succ]
                refine wpAnyH_ready (rs := [5]) (by kernel_rfl) (by simp) ?_
                refine AllReadyH.cons (i := 5) (o := { dst := some 83, op := Op.call { callee := Callee.value (Operand.func 10), args := #[Operand.tmp 78, Operand.tmp 79, Operand.tmp 82], argTypes := #[2, 25, 25] }, type := 31, pos := _, after := _, guard := none }) rfl (fun K hK => ?_) AllReadyH.nil
                go_simp
                refine (op_any k al ah (joinL bl bh dl dh) (joinH bl bh dl dh) k0 k4 (unhide HI).1.1 (unhide HI).1.2.1 (unhide HJ).2.1 (unhide HJ).2.2.1 _).mono ?_
                rintro e wz4 ⟨rfl, hb4⟩
                rw [← unhide HU]
                have hk4 := hide (S8.call hb4 (unhide hk3))
                have hv4 := hide (C4.call hb4 (unhide hv3))
                have hx4 := hide (C4.call hb4 (unhide hx3))
                have f10_4 := hide (C4.call hb4 (unhide f10_3))
                have f9_4 := hide (C4.call hb4 (unhide f9_3))
                clear hb4 hv3 hx3 f10_3 f9_3
                refine hK.out _ _ (unhide hk4) (fun hHeld => ?_)
                clear hK K
                try simp only [Act.put, List.setIfInBounds_toArray, List.set_cons_zero, List.set_cons_succ]
                refine wpAnyH_take (i := 6) (oi := { dst := some 77, op := Op.move (Operand.tmp 83), type := 31, pos := _, after := _, guard := none }) (v := ?_) rfl (by kernel_rfl) (by kernel_rfl) (by kernel_rfl) (fun _ _ _ h => h) (Or.inl ⟨by rfl, ?_⟩) (by assumption) ?_
                rotate_left
                · (intro w hSw; (try dsimp only at hSw); go_simp; try with_reducible rfl)
                try simp only [Act.put, List.setIfInBounds_toArray, List.set_cons_zero, List.set_cons_succ]
                refine wpAnyH_take (i := 7) (oi := { dst := some 84, op := Op.extract (Operand.tmp 77) 0, type := 30, pos := _, after := _, guard := none }) (v := ?_) rfl (by kernel_rfl) (by kernel_rfl) (by kernel_rfl) (fun _ _ _ h => h) (Or.inl ⟨by rfl, ?_⟩) (by assumption) ?_
                rotate_left
                · (intro w hSw; (try dsimp only at hSw); go_simp; try with_reducible rfl)
                try simp only [Act.put, List.setIfInBounds_toArray, List.set_cons_zero, List.set_cons_succ]
                refine wpAnyH_take (i := 8) (oi := { dst := some 85, op := Op.extract (Operand.tmp 77) 1, type := 30, pos := _, after := _, guard := none }) (v := ?_) rfl (by kernel_rfl) (by kernel_rfl) (by kernel_rfl) (fun _ _ _ h => h) (Or.inl ⟨by rfl, ?_⟩) (by assumption) ?_
                rotate_left
                · (intro w hSw; (try dsimp only at hSw); go_simp; try with_reducible rfl)
                try simp only [Act.put, List.setIfInBounds_toArray, List.set_cons_zero, List.set_cons_succ]
                refine wpAnyH_ready (rs := [11]) (by kernel_rfl) (by simp) ?_
                refine AllReadyH.cons (i := 11) (o := { dst := none, op := Op.store 30 (Operand.tmp 14) (Operand.tmp 84), type := 0, pos := _, after := _, guard := none }) rfl (fun K hK => ?_) AllReadyH.nil
                obtain ⟨⟨c0, c1, c2, c3⟩, c4, c5⟩ := unhide f9_4
                go_simp
                refine hK.out _ _ ?_ (fun hHeld => ?_)
                · exact S8.put (unhide hk4) (unhide g9) _ _ _ _
                clear hK K c0 c1 c2 c3 c4 c5 hHeld
                try simp only [Act.put, List.setIfInBounds_toArray, List.set_cons_zero, List.set_cons_succ]
                have hk5 := hide (S8.put (unhide hk4) (unhide g9) (.int .i64 U.lo) (.int .i64 U.hi) (.bool U.live) (.int .i64 U.al))
                have f9_5 := hide (C4.put (x' := U.lo) (y' := U.hi) (l' := U.live) (u' := U.al) (unhide f9_4))
                have f10_5 := hide (C4.far (c := b9) (unhide f10_4) (by omega) (.int .i64 U.lo) (.int .i64 U.hi) (.bool U.live) (.int .i64 U.al))
                have hv5 := hide (C4.far (c := b9) (unhide hv4) (by omega) (.int .i64 U.lo) (.int .i64 U.hi) (.bool U.live) (.int .i64 U.al))
                have hx5 := hide (C4.far (c := b9) (unhide hx4) (by omega) (.int .i64 U.lo) (.int .i64 U.hi) (.bool U.live) (.int .i64 U.al))
                obtain ⟨wz5, hw⟩ : ∃ x, x = (((wz4.setCell ⟨b9, 0, none⟩ (.int .i64 U.lo)).setCell ⟨b9, 1, none⟩ (.int .i64 U.hi)).setCell ⟨b9, 2, none⟩ (.bool U.live)).setCell ⟨b9, 3, none⟩ (.int .i64 U.al) := ⟨_, rfl⟩
                rw [← hw] at hk5 f9_5 f10_5 hv5 hx5 ⊢
                clear hw
                have hHeld := unhide hk5
                refine wpAnyH_ready (rs := [12]) (by kernel_rfl) (by simp) ?_
                refine AllReadyH.cons (i := 12) (o := { dst := none, op := Op.store 30 (Operand.tmp 15) (Operand.tmp 85), type := 0, pos := _, after := _, guard := none }) rfl (fun K hK => ?_) AllReadyH.nil
                obtain ⟨⟨c0, c1, c2, c3⟩, c4, c5⟩ := unhide f10_5
                go_simp
                refine hK.out _ _ ?_ (fun hHeld => ?_)
                · exact S8.put (unhide hk5) (unhide g10) _ _ _ _
                clear hK K c0 c1 c2 c3 c4 c5 hHeld
                try simp only [Act.put, List.setIfInBounds_toArray, List.set_cons_zero, List.set_cons_succ]
                have hk6 := hide (S8.put (unhide hk5) (unhide g10) (.int .i64 U.lo) (.int .i64 U.hi) (.bool U.live) (.int .i64 U.al))
                have f10_6 := hide (C4.put (x' := U.lo) (y' := U.hi) (l' := U.live) (u' := U.al) (unhide f10_5))
                have f9_6 := hide (C4.far (c := b10) (unhide f9_5) (by omega) (.int .i64 U.lo) (.int .i64 U.hi) (.bool U.live) (.int .i64 U.al))
                have hv6 := hide (C4.far (c := b10) (unhide hv5) (by omega) (.int .i64 U.lo) (.int .i64 U.hi) (.bool U.live) (.int .i64 U.al))
                have hx6 := hide (C4.far (c := b10) (unhide hx5) (by omega) (.int .i64 U.lo) (.int .i64 U.hi) (.bool U.live) (.int .i64 U.al))
                obtain ⟨wz6, hw⟩ : ∃ x, x = (((wz5.setCell ⟨b10, 0, none⟩ (.int .i64 U.lo)).setCell ⟨b10, 1, none⟩ (.int .i64 U.hi)).setCell ⟨b10, 2, none⟩ (.bool U.live)).setCell ⟨b10, 3, none⟩ (.int .i64 U.al) := ⟨_, rfl⟩
                rw [← hw] at hk6 f9_6 f10_6 hv6 hx6 ⊢
                clear hw
                have hHeld := unhide hk6
                refine wpAnyH_done (by kernel_rfl) ?_ _
                go_wp2_with fail
                go_meet
                exact ⟨b9, rfl, unhide f9_6, unhide hv6, unhide hx6, unhide hk6⟩
          case rest =>
          clear H8 HC HD
          obtain ⟨G, rfl, hg, hc, hd, hs8⟩ := hcut
          have K := hide (unhide hs8.2.2.2.2.2.2.2.2).1
          have HG := hide hg
          have HC := hide hc
          have HD := hide hd
          clear hs8 hg hc hd
          have v0 := (unhide HC).1.1
          have v1 := (unhide HC).1.2.1
          have v2 := (unhide HC).1.2.2.1
          have v3 := (unhide HC).1.2.2.2
          have x0 := (unhide HD).1.1
          have x1 := (unhide HD).1.2.1
          have x2 := (unhide HD).1.2.2.1
          have x3 := (unhide HD).1.2.2.2
          have u0 := (unhide HG).1.1
          have u1 := (unhide HG).1.2.1
          have u2 := (unhide HG).1.2.2.1
          have u3 := (unhide HG).1.2.2.2
          have n1 := (unhide F).1.2
          have n2 := (unhide F).2.2
          by_cases hl : V.live = true
          · have HL := hide (And.intro ((unhide F).1.1 hl) ((unhide F).2.1 hl))
            have e1 : X.live = true := (unhide HL).1.1
            have e2 : U.live = true := (unhide HL).2.1
            have e3 := (unhide HL).1.2
            have e4 := (unhide HL).2.2
            clear HL
            go_wp2_with fail
            refine (IvLeq_c _ _ _ _ _).mono ?_
            rintro e wq ⟨rfl, hb⟩
            have K := hide ((unhide K).trans (hb.mono (unhide K).size))
            have HC := hide (C4.call hb (unhide HC))
            have HD := hide (C4.call hb (unhide HD))
            have HG := hide (C4.call hb (unhide HG))
            clear hb v0 v1 v2 v3 x0 x1 x2 x3 u0 u1 u2 u3
            have v0 := (unhide HC).1.1
            have v1 := (unhide HC).1.2.1
            have v2 := (unhide HC).1.2.2.1
            have v3 := (unhide HC).1.2.2.2
            have x0 := (unhide HD).1.1
            have x1 := (unhide HD).1.2.1
            have x2 := (unhide HD).1.2.2.1
            have x3 := (unhide HD).1.2.2.2
            have u0 := (unhide HG).1.1
            have u1 := (unhide HG).1.2.1
            have u2 := (unhide HG).1.2.2.1
            have u3 := (unhide HG).1.2.2.2
            go_wp2_with fail
            refine (IvLeq_c _ _ _ _ _).mono ?_
            rintro e wr ⟨rfl, hb⟩
            have K := hide ((unhide K).trans (hb.mono (unhide K).size))
            have HC := hide (C4.call hb (unhide HC))
            have HD := hide (C4.call hb (unhide HD))
            have HG := hide (C4.call hb (unhide HG))
            clear hb v0 v1 v2 v3 x0 x1 x2 x3 u0 u1 u2 u3
            have v0 := (unhide HC).1.1
            have v1 := (unhide HC).1.2.1
            have v2 := (unhide HC).1.2.2.1
            have v3 := (unhide HC).1.2.2.2
            have x0 := (unhide HD).1.1
            have x1 := (unhide HD).1.2.1
            have x2 := (unhide HD).1.2.2.1
            have x3 := (unhide HD).1.2.2.2
            have u0 := (unhide HG).1.1
            have u1 := (unhide HG).1.2.1
            have u2 := (unhide HG).1.2.2.1
            have u3 := (unhide HG).1.2.2.2
            go_wp2
            go_ret
            exact ⟨by simp, unhide K⟩
          · have hl' : V.live = false := by simpa using hl
            clear hl
            go_wp2
            go_ret
            exact ⟨by simp, unhide K⟩
        · have o3 : okB dl dh = false := decide_eq_false h3
          have K := hide (unhide (unhide P).1.2.2.2.2.2.2.2.2).1
          go_wp2
          go_ret
          exact ⟨by simp, unhide K⟩
      · have o2 : okB cl ch = false := decide_eq_false h2
        have K := hide (unhide (unhide P).1.2.2.2.2.2.2.2.2).1
        go_wp2
        go_ret
        exact ⟨by simp, unhide K⟩
    · have o1 : okB bl bh = false := decide_eq_false h1
      have K := hide (unhide (unhide P).1.2.2.2.2.2.2.2.2).1
      go_wp2
      go_ret
      exact ⟨by simp, unhide K⟩
  · have o0 : okB al ah = false := decide_eq_false h0
    have K := hide (unhide (unhide P).1.2.2.2.2.2.2.2.2).1
    go_wp2
    go_ret
    exact ⟨by simp, unhide K⟩

/-! The row's step. -/
set_option maxRecDepth 100000 in
theorem lifted (os : Os) (started : os.Started) (H : Type) (enc : TypeId × Value → H) :
    ReturnsInHanded {} Try.checked os 4 .any (Rows.fnIvMoreSpec.pre6 enc Try.prog Try.f4 Rows.fnIvMoreRow.domain false) (Rows.fnIvMoreSpec.post enc Try.prog Try.f4 false true false false) := by
  refine returnsInHanded_of_change (C := Try.checked) own started (by kernel_rfl) Try.func4
    (ChangeSpec.witness6 (enc := enc) (C := Try.checked) false ⟨#[], #[.slice none 0 0, .slice none 0 0], []⟩ 8 (by kernel_rfl) (by kernel_rfl) (by kernel_rfl) (by kernel_rfl)) ?_
  intro W base args ds gs before hval0 hW hcnd _
  have hval : ∀ (j : Nat) t v, Try.f4.params[j]? = some t → args[j]? = some v → Value.okWide Try.prog W .any base t v := hval0
  have hW' := hW
  obtain ⟨p, q, hA0, hV, rfl, hfz, hnd⟩ := hW
  have hA : DataW.TrodAll enc Try.prog W 0 (fun _ => true) true Try.f4.params.toList args.toList ds p := hA0
  rw [Try.params4] at hA hval
  obtain ⟨v0, vs0, d0, ds0, p0, q0, hargs, rfl, rfl, h0, r0⟩ := trodAll_cons hA
  obtain ⟨v1, vs1, d1, ds1, p1, q1, rfl, rfl, rfl, h1, r1⟩ := trodAll_cons r0
  obtain ⟨rfl, rfl, rfl⟩ := trodAll_nil r1
  obtain rfl : args = #[v0, v1] := by cases args; simp_all
  obtain ⟨rfl, rfl⟩ := trodVars_none hV
  obtain ⟨a0, len0, cap0, rfl⟩ := okWide_slice Try.underlying22 (hval 0 22 v0 rfl rfl)
  have k0 := h0
  have lt0 : ∀ x ∈ p0, x.block < W.heap.size := by obtain ⟨m, hm⟩ := k0; exact DataW.trod_lt m _ _ _ hm
  obtain ⟨z0, w0⟩ : ∃ zs, IsRow .u8 W a0 len0 cap0 zs := by
    obtain ⟨fuel, hf⟩ := h0
    rcases open_ints Try.underlying22 Try.underlying5 (by kernel_rfl) hf with ⟨hcs, _⟩ | ⟨x, l, c, zs, hcs, _, hl, hm, hz, _, hcell, hwz⟩
    · simp [Value.cells] at hcs
      obtain ⟨rfl, rfl, rfl⟩ := hcs
      exact ⟨[], .inl ⟨rfl, rfl, rfl, rfl⟩⟩
    · simp [Value.cells] at hcs
      obtain ⟨rfl, rfl, rfl⟩ := hcs
      exact ⟨zs, .inr ⟨_, rfl, hl, hm, by simpa using hz, hcell, hwz⟩⟩
  obtain ⟨a1, len1, cap1, rfl⟩ := okWide_slice Try.underlying22 (hval 1 22 v1 rfl rfl)
  have k1 := h1
  have lt1 : ∀ x ∈ p1, x.block < W.heap.size := by obtain ⟨m, hm⟩ := k1; exact DataW.trod_lt m _ _ _ hm
  obtain ⟨z1, w1⟩ : ∃ zs, IsRow .u8 W a1 len1 cap1 zs := by
    obtain ⟨fuel, hf⟩ := h1
    rcases open_ints Try.underlying22 Try.underlying5 (by kernel_rfl) hf with ⟨hcs, _⟩ | ⟨x, l, c, zs, hcs, _, hl, hm, hz, _, hcell, hwz⟩
    · simp [Value.cells] at hcs
      obtain ⟨rfl, rfl, rfl⟩ := hcs
      exact ⟨[], .inl ⟨rfl, rfl, rfl, rfl⟩⟩
    · simp [Value.cells] at hcs
      obtain ⟨rfl, rfl, rfl⟩ := hcs
      exact ⟨zs, .inr ⟨_, rfl, hl, hm, by simpa using hz, hcell, hwz⟩⟩
  clear hA0 hval0
  refine (walk a0 len0 cap0 z0 a1 len1 cap1 z1 W w0 w1).mono fun e W' ⟨he, bel⟩ => ?_
  subst he
  exact ⟨_, rfl, _, _, _, [], _, [], hW', trodAll_mk1 (shut_bool Try.underlying4 _), (trodAll_cons_mk (Below.trod laidOut (by kernel_rfl) (of_decide_eq_true (by kernel_rfl)) k0 bel lt0) (trodAll_cons_mk (Below.trod laidOut (by kernel_rfl) (of_decide_eq_true (by kernel_rfl)) k1 bel lt1) trodAll_mk0)), rfl, bel.frame _, fun h => by cases h⟩

theorem over : Rows.fnIvMoreRow.holds Try.pinned (OpenSpec.ofChange Rows.fnIvMoreSpec) :=
  OpenClaim.holds_of_wide 4 Try.f4 rfl rfl rfl rfl rfl rfl rfl ⟨rfl, rfl, rfl, rfl, rfl⟩ rfl rfl rfl rfl rfl (by kernel_rfl) Try.func4 (by kernel_rfl)
    (of_decide_eq_true (by kernel_rfl)) (by unfold Func.isWrapper; first | (rw [if_pos (by decide +kernel)]; kernel_rfl) | (rw [if_neg (by decide +kernel)]; exact ⟨rfl, rfl⟩))
    (fun os started H enc _ => lifted os started H enc)
end Go.Proofs.Ytfnedaidljppnaa.fnIvMore

namespace Go.Proofs.Ytfnedaidljppnaa
/-- The given statement. -/
theorem fnIvMore_holds : Rows.FnIvMoreSaid := fnIvMore.over
#print axioms fnIvMore_holds
end Go.Proofs.Ytfnedaidljppnaa
