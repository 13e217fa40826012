/- Proved here: whatever the arguments, a call of laws.FnTokenOrder returns true and leaves its arguments as they were. No condition beside the row's own. -/
import Derived.Test.YtainilaogielhaaRows
import Derived.WalkKit
import Derived.ProofKit
import Derived.OpenShut
import Derived.ShutString
import Derived.ChangeOld
import Derived.Below
import Derived.Lib.SmallJoins
import Derived.Test.YtainilaogielhaaTokS
namespace Go.Proofs.Ytainilaogielhaa.fnTokenOrder
open Go.Iv
open Go.ChangeShapes Go.WideShapes Go.ChangeAt Go.RowKit
open Go.ChangeMaps (open_string shut_string)
set_option linter.unusedVariables false
set_option linter.unusedSimpArgs false

theorem own : ownKnob Try.prog.godebug = none := by kernel_rfl
theorem laidOut : laidOutB Try.prog = true := by kernel_rfl

/-- What the walk is told of a slice of integers that came in. -/
def IsRow (k : IntKind) (w : World) (a : Option Addr) (len cap : Nat) (zs : List Int) : Prop :=
  (a = none ∧ len = 0 ∧ cap = 0 ∧ zs = []) ∨
  ∃ x, a = some x ∧ len ≤ cap ∧ cap ≤ maxLen ∧ zs.length = cap ∧ (∀ i, i < zs.length → w.cell? (x.add i) = some (.int k (zs.getD i 0))) ∧ ∀ n ∈ zs, (Lit.int k n).wf = true

/-! The walk of the law. -/
set_option maxRecDepth 100000 in
set_option maxHeartbeats 2000000 in
theorem walk (a0 : Option Addr) (len0 cap0 : Nat) (z0 : List Int) (a1 : Option Addr) (len1 cap1 : Nat) (z1 : List Int) (w : World) (w0 : IsRow .u8 w a0 len0 cap0 z0) (w1 : IsRow .u8 w a1 len1 cap1 z1) :
    Calls Try.prog 3 #[.slice a0 len0 cap0, .slice a1 len1 cap1] w fun e w' => e = .returned (.bool true) ∧ Below w.heap.size w w' := by
  --HEAVY
  by_cases hbig : 1048576 < len0
  · have hm := row_len w0
    clear w0 w1
    go_enter Try.func3, Try.ntmps3
    go_wp2_with fail
    refine (big_yes _ _ _ hbig hm _).mono ?_
    rintro e w' ⟨rfl, rfl⟩
    go_wp2
    go_ret
    exact ⟨rfl, Below.refl _ _⟩
  have hs : len0 ≤ 1048576 := by omega
  by_cases hbig1 : 1048576 < len1
  · have hm := row_len w1
    clear w0 w1 hbig
    go_enter Try.func3, Try.ntmps3
    go_wp2_with fail
    refine (big_c _ _ _ hs _).mono ?_
    rintro e w' ⟨rfl, rfl⟩
    go_wp2_with fail
    refine (big_yes _ _ _ hbig1 hm _).mono ?_
    rintro e w' ⟨rfl, rfl⟩
    go_wp2
    go_ret
    exact ⟨rfl, Below.refl _ _⟩
  have hs1 : len1 ≤ 1048576 := by omega
  have CD := hide (code_of_row w0 hs)
  have CD1 := hide (code_of_row w1 hs1)
  clear w0 w1 hbig hbig1
  go_enter Try.func3, Try.ntmps3
  go_wp2_with fail
  refine (big_c _ _ _ hs _).mono ?_
  rintro e w' ⟨rfl, rfl⟩
  go_wp2_with fail
  refine (big_c _ _ _ hs1 _).mono ?_
  rintro e w' ⟨rfl, rfl⟩
  go_wp2_with fail
  refine (DrawTokenLess_c _ _ _ _ (unhide CD)).mono ?_
  rintro e u1 ⟨g1, c1, g2, c2, zs, zt, rfl, i1, i2, b1⟩
  have I1 := hide i1
  have I2 := hide i2
  have K := hide b1
  clear i1 i2 b1 CD
  go_wp2_with fail
  refine (DrawTokenLess_c _ _ _ _ ((unhide CD1).below (unhide K))).mono ?_
  rintro e u2 ⟨g3, c3, g4, c4, zu, zv, rfl, i3, i4, b2⟩
  have I3 := hide i3
  clear i3 i4 CD1
  have I1 := hide ((unhide I1).call b2)
  have I2 := hide ((unhide I2).call b2)
  have K := hide ((unhide K).trans (b2.mono (unhide K).size))
  clear b2
  go_wp2_with fail
  refine (TokenLess_c _ _ _ _ zs zt _ (unhide I1) (unhide I2)).mono ?_
  rintro e u3 ⟨rfl, b3⟩
  have I1 := hide ((unhide I1).call b3)
  have I2 := hide ((unhide I2).call b3)
  have I3 := hide ((unhide I3).call b3)
  have K := hide ((unhide K).trans (b3.mono (unhide K).size))
  clear b3
  go_wp2_with fail
  refine (TokenLess_c _ _ _ _ zt zs _ (unhide I2) (unhide I1)).mono ?_
  rintro e u4 ⟨rfl, b4⟩
  have I1 := hide ((unhide I1).call b4)
  have I2 := hide ((unhide I2).call b4)
  have I3 := hide ((unhide I3).call b4)
  have K := hide ((unhide K).trans (b4.mono (unhide K).size))
  clear b4
  by_cases t1 : tokB zs = true
  · by_cases t2 : tokB zt = true
    · by_cases hs : zs = zt
      · have x : lessB zs zt = false := by rw [hs]; exact less_self zt
        have y : lessB zt zs = false := by rw [hs]; exact less_self zt
        have sm : decide (zs = zt) = true := decide_eq_true hs
        have X := hide x
        have Y := hide y
        have S := hide sm
        clear x y sm hs
        rw [unhide X, unhide Y]
        go_wp2_with fail
        refine (sTokenLess_c _ _ _ _ zs zt _ (unhide I1) (unhide I2)).mono ?_
        rintro e u5 ⟨rfl, b5⟩
        rw [unhide X]
        have I1 := hide ((unhide I1).call b5)
        have I2 := hide ((unhide I2).call b5)
        have I3 := hide ((unhide I3).call b5)
        have K := hide ((unhide K).trans (b5.mono (unhide K).size))
        clear b5
        go_wp2_with fail
        refine (sTokenOk_c _ _ zs _ (unhide I1)).mono ?_
        rintro e u6 ⟨rfl, rfl⟩
        rw [t1]
        go_wp2_with fail
        refine (sTokenOk_c _ _ zt _ (unhide I2)).mono ?_
        rintro e u7 ⟨rfl, rfl⟩
        rw [t2]
        go_wp2_with fail
        refine (same_c _ _ _ _ zs zt _ (unhide I1) (unhide I2)).mono ?_
        rintro e u8 ⟨rfl, b8⟩
        rw [unhide S]
        have I1 := hide ((unhide I1).call b8)
        have I2 := hide ((unhide I2).call b8)
        have I3 := hide ((unhide I3).call b8)
        have K := hide ((unhide K).trans (b8.mono (unhide K).size))
        clear b8
        go_wp2_with fail
        refine (same_c _ _ _ _ zs zt _ (unhide I1) (unhide I2)).mono ?_
        rintro e u9 ⟨rfl, b9⟩
        rw [unhide S]
        have I1 := hide ((unhide I1).call b9)
        have I2 := hide ((unhide I2).call b9)
        have I3 := hide ((unhide I3).call b9)
        have K := hide ((unhide K).trans (b9.mono (unhide K).size))
        clear b9
        go_wp2
        go_ret
        exact ⟨rfl, unhide K⟩
      · have y := less_one zs zt t1 t2 hs
        have sm : decide (zs = zt) = false := decide_eq_false hs
        have S := hide sm
        clear sm hs
        cases x : lessB zs zt
        · rw [x] at y
          have y' : lessB zt zs = true := y
          have X := hide x
          have Y := hide y'
          clear x y y'
          rw [unhide Y]
          go_wp2_with fail
          refine (sTokenLess_c _ _ _ _ zs zt _ (unhide I1) (unhide I2)).mono ?_
          rintro e u10 ⟨rfl, b10⟩
          rw [unhide X]
          have I1 := hide ((unhide I1).call b10)
          have I2 := hide ((unhide I2).call b10)
          have I3 := hide ((unhide I3).call b10)
          have K := hide ((unhide K).trans (b10.mono (unhide K).size))
          clear b10
          go_wp2_with fail
          refine (sTokenOk_c _ _ zs _ (unhide I1)).mono ?_
          rintro e u11 ⟨rfl, rfl⟩
          rw [t1]
          go_wp2_with fail
          refine (sTokenOk_c _ _ zt _ (unhide I2)).mono ?_
          rintro e u12 ⟨rfl, rfl⟩
          rw [t2]
          go_wp2_with fail
          refine (same_c _ _ _ _ zs zt _ (unhide I1) (unhide I2)).mono ?_
          rintro e u13 ⟨rfl, b13⟩
          rw [unhide S]
          have I1 := hide ((unhide I1).call b13)
          have I2 := hide ((unhide I2).call b13)
          have I3 := hide ((unhide I3).call b13)
          have K := hide ((unhide K).trans (b13.mono (unhide K).size))
          clear b13
          go_wp2_with fail
          refine (same_c _ _ _ _ zs zt _ (unhide I1) (unhide I2)).mono ?_
          rintro e u14 ⟨rfl, b14⟩
          rw [unhide S]
          have I1 := hide ((unhide I1).call b14)
          have I2 := hide ((unhide I2).call b14)
          have I3 := hide ((unhide I3).call b14)
          have K := hide ((unhide K).trans (b14.mono (unhide K).size))
          clear b14
          go_wp2
          go_ret
          exact ⟨rfl, unhide K⟩
        · rw [x] at y
          have y' : lessB zt zs = false := y
          have X := hide x
          have Y := hide y'
          clear x y y'
          rw [unhide Y]
          cases q : lessB zt zu
          · have Q := hide q
            clear q
            go_wp2_with fail
            refine (sTokenLess_c _ _ _ _ zs zt _ (unhide I1) (unhide I2)).mono ?_
            rintro e u15 ⟨rfl, b15⟩
            rw [unhide X]
            have I1 := hide ((unhide I1).call b15)
            have I2 := hide ((unhide I2).call b15)
            have I3 := hide ((unhide I3).call b15)
            have K := hide ((unhide K).trans (b15.mono (unhide K).size))
            clear b15
            go_wp2_with fail
            refine (sTokenOk_c _ _ zs _ (unhide I1)).mono ?_
            rintro e u16 ⟨rfl, rfl⟩
            rw [t1]
            go_wp2_with fail
            refine (sTokenOk_c _ _ zt _ (unhide I2)).mono ?_
            rintro e u17 ⟨rfl, rfl⟩
            rw [t2]
            go_wp2_with fail
            refine (same_c _ _ _ _ zs zt _ (unhide I1) (unhide I2)).mono ?_
            rintro e u18 ⟨rfl, b18⟩
            rw [unhide S]
            have I1 := hide ((unhide I1).call b18)
            have I2 := hide ((unhide I2).call b18)
            have I3 := hide ((unhide I3).call b18)
            have K := hide ((unhide K).trans (b18.mono (unhide K).size))
            clear b18
            go_wp2_with fail
            refine (same_c _ _ _ _ zs zt _ (unhide I1) (unhide I2)).mono ?_
            rintro e u19 ⟨rfl, b19⟩
            rw [unhide S]
            have I1 := hide ((unhide I1).call b19)
            have I2 := hide ((unhide I2).call b19)
            have I3 := hide ((unhide I3).call b19)
            have K := hide ((unhide K).trans (b19.mono (unhide K).size))
            clear b19
            go_wp2_with fail
            refine (TokenLess_c _ _ _ _ zt zu _ (unhide I2) (unhide I3)).mono ?_
            rintro e u20 ⟨rfl, b20⟩
            rw [unhide Q]
            have I1 := hide ((unhide I1).call b20)
            have I2 := hide ((unhide I2).call b20)
            have I3 := hide ((unhide I3).call b20)
            have K := hide ((unhide K).trans (b20.mono (unhide K).size))
            clear b20
            go_wp2
            go_ret
            exact ⟨rfl, unhide K⟩
          · have R := hide (less_trans zs zt zu (unhide X) q)
            have Q := hide q
            clear q
            go_wp2_with fail
            refine (sTokenLess_c _ _ _ _ zs zt _ (unhide I1) (unhide I2)).mono ?_
            rintro e u21 ⟨rfl, b21⟩
            rw [unhide X]
            have I1 := hide ((unhide I1).call b21)
            have I2 := hide ((unhide I2).call b21)
            have I3 := hide ((unhide I3).call b21)
            have K := hide ((unhide K).trans (b21.mono (unhide K).size))
            clear b21
            go_wp2_with fail
            refine (sTokenOk_c _ _ zs _ (unhide I1)).mono ?_
            rintro e u22 ⟨rfl, rfl⟩
            rw [t1]
            go_wp2_with fail
            refine (sTokenOk_c _ _ zt _ (unhide I2)).mono ?_
            rintro e u23 ⟨rfl, rfl⟩
            rw [t2]
            go_wp2_with fail
            refine (same_c _ _ _ _ zs zt _ (unhide I1) (unhide I2)).mono ?_
            rintro e u24 ⟨rfl, b24⟩
            rw [unhide S]
            have I1 := hide ((unhide I1).call b24)
            have I2 := hide ((unhide I2).call b24)
            have I3 := hide ((unhide I3).call b24)
            have K := hide ((unhide K).trans (b24.mono (unhide K).size))
            clear b24
            go_wp2_with fail
            refine (same_c _ _ _ _ zs zt _ (unhide I1) (unhide I2)).mono ?_
            rintro e u25 ⟨rfl, b25⟩
            rw [unhide S]
            have I1 := hide ((unhide I1).call b25)
            have I2 := hide ((unhide I2).call b25)
            have I3 := hide ((unhide I3).call b25)
            have K := hide ((unhide K).trans (b25.mono (unhide K).size))
            clear b25
            go_wp2_with fail
            refine (TokenLess_c _ _ _ _ zt zu _ (unhide I2) (unhide I3)).mono ?_
            rintro e u26 ⟨rfl, b26⟩
            rw [unhide Q]
            have I1 := hide ((unhide I1).call b26)
            have I2 := hide ((unhide I2).call b26)
            have I3 := hide ((unhide I3).call b26)
            have K := hide ((unhide K).trans (b26.mono (unhide K).size))
            clear b26
            go_wp2_with fail
            refine (TokenLess_c _ _ _ _ zs zu _ (unhide I1) (unhide I3)).mono ?_
            rintro e u27 ⟨rfl, b27⟩
            rw [unhide R]
            have I1 := hide ((unhide I1).call b27)
            have I2 := hide ((unhide I2).call b27)
            have I3 := hide ((unhide I3).call b27)
            have K := hide ((unhide K).trans (b27.mono (unhide K).size))
            clear b27
            go_wp2
            go_ret
            exact ⟨rfl, unhide K⟩
    · have t2' : tokB zt = false := by simpa using t2
      clear t2
      cases x : lessB zs zt
      · have X := hide x
        clear x
        go_wp2_with fail
        refine (sTokenLess_c _ _ _ _ zs zt _ (unhide I1) (unhide I2)).mono ?_
        rintro e u28 ⟨rfl, b28⟩
        rw [unhide X]
        have I1 := hide ((unhide I1).call b28)
        have I2 := hide ((unhide I2).call b28)
        have I3 := hide ((unhide I3).call b28)
        have K := hide ((unhide K).trans (b28.mono (unhide K).size))
        clear b28
        go_wp2_with fail
        refine (sTokenOk_c _ _ zs _ (unhide I1)).mono ?_
        rintro e u29 ⟨rfl, rfl⟩
        rw [t1]
        go_wp2_with fail
        refine (sTokenOk_c _ _ zt _ (unhide I2)).mono ?_
        rintro e u30 ⟨rfl, rfl⟩
        rw [t2']
        go_wp2_with fail
        refine (sTokenLess_c _ _ _ _ zs zt _ (unhide I1) (unhide I2)).mono ?_
        rintro e u31 ⟨rfl, b31⟩
        rw [unhide X]
        have I1 := hide ((unhide I1).call b31)
        have I2 := hide ((unhide I2).call b31)
        have I3 := hide ((unhide I3).call b31)
        have K := hide ((unhide K).trans (b31.mono (unhide K).size))
        clear b31
        go_wp2
        go_ret
        exact ⟨rfl, unhide K⟩
      · have X := hide x
        clear x
        go_wp2_with fail
        refine (sTokenLess_c _ _ _ _ zs zt _ (unhide I1) (unhide I2)).mono ?_
        rintro e u32 ⟨rfl, b32⟩
        rw [unhide X]
        have I1 := hide ((unhide I1).call b32)
        have I2 := hide ((unhide I2).call b32)
        have I3 := hide ((unhide I3).call b32)
        have K := hide ((unhide K).trans (b32.mono (unhide K).size))
        clear b32
        go_wp2_with fail
        refine (sTokenOk_c _ _ zs _ (unhide I1)).mono ?_
        rintro e u33 ⟨rfl, rfl⟩
        rw [t1]
        go_wp2_with fail
        refine (sTokenOk_c _ _ zt _ (unhide I2)).mono ?_
        rintro e u34 ⟨rfl, rfl⟩
        rw [t2']
        go_wp2_with fail
        refine (sTokenLess_c _ _ _ _ zs zt _ (unhide I1) (unhide I2)).mono ?_
        rintro e u35 ⟨rfl, b35⟩
        rw [unhide X]
        have I1 := hide ((unhide I1).call b35)
        have I2 := hide ((unhide I2).call b35)
        have I3 := hide ((unhide I3).call b35)
        have K := hide ((unhide K).trans (b35.mono (unhide K).size))
        clear b35
        go_wp2
        go_ret
        exact ⟨rfl, unhide K⟩
  · have t1' : tokB zs = false := by simpa using t1
    clear t1
    cases x : lessB zs zt
    · have X := hide x
      clear x
      go_wp2_with fail
      refine (sTokenLess_c _ _ _ _ zs zt _ (unhide I1) (unhide I2)).mono ?_
      rintro e u36 ⟨rfl, b36⟩
      rw [unhide X]
      have I1 := hide ((unhide I1).call b36)
      have I2 := hide ((unhide I2).call b36)
      have I3 := hide ((unhide I3).call b36)
      have K := hide ((unhide K).trans (b36.mono (unhide K).size))
      clear b36
      go_wp2_with fail
      refine (sTokenOk_c _ _ zs _ (unhide I1)).mono ?_
      rintro e u37 ⟨rfl, rfl⟩
      rw [t1']
      go_wp2_with fail
      refine (sTokenLess_c _ _ _ _ zs zt _ (unhide I1) (unhide I2)).mono ?_
      rintro e u38 ⟨rfl, b38⟩
      rw [unhide X]
      have I1 := hide ((unhide I1).call b38)
      have I2 := hide ((unhide I2).call b38)
      have I3 := hide ((unhide I3).call b38)
      have K := hide ((unhide K).trans (b38.mono (unhide K).size))
      clear b38
      go_wp2
      go_ret
      exact ⟨rfl, unhide K⟩
    · have X := hide x
      clear x
      go_wp2_with fail
      refine (sTokenLess_c _ _ _ _ zs zt _ (unhide I1) (unhide I2)).mono ?_
      rintro e u39 ⟨rfl, b39⟩
      rw [unhide X]
      have I1 := hide ((unhide I1).call b39)
      have I2 := hide ((unhide I2).call b39)
      have I3 := hide ((unhide I3).call b39)
      have K := hide ((unhide K).trans (b39.mono (unhide K).size))
      clear b39
      go_wp2_with fail
      refine (sTokenOk_c _ _ zs _ (unhide I1)).mono ?_
      rintro e u40 ⟨rfl, rfl⟩
      rw [t1']
      go_wp2_with fail
      refine (sTokenLess_c _ _ _ _ zs zt _ (unhide I1) (unhide I2)).mono ?_
      rintro e u41 ⟨rfl, b41⟩
      rw [unhide X]
      have I1 := hide ((unhide I1).call b41)
      have I2 := hide ((unhide I2).call b41)
      have I3 := hide ((unhide I3).call b41)
      have K := hide ((unhide K).trans (b41.mono (unhide K).size))
      clear b41
      go_wp2
      go_ret
      exact ⟨rfl, unhide K⟩

/-! The row's step. -/
set_option maxRecDepth 100000 in
theorem lifted (os : Os) (started : os.Started) (H : Type) (enc : TypeId × Value → H) :
    ReturnsInHanded {} Try.checked os 3 .any (Rows.fnTokenOrderSpec.pre6 enc Try.prog Try.f3 Rows.fnTokenOrderRow.domain false) (Rows.fnTokenOrderSpec.post enc Try.prog Try.f3 false true false false) := by
  refine returnsInHanded_of_change (C := Try.checked) own started (by kernel_rfl) Try.func3
    (ChangeSpec.witness6 (enc := enc) (C := Try.checked) false ⟨#[], #[.slice none 0 0, .slice none 0 0], []⟩ 8 (by kernel_rfl) (by kernel_rfl) (by kernel_rfl) (by kernel_rfl)) ?_
  intro W base args ds gs before hval0 hW hcnd _
  have hval : ∀ (j : Nat) t v, Try.f3.params[j]? = some t → args[j]? = some v → Value.okWide Try.prog W .any base t v := hval0
  have hW' := hW
  obtain ⟨p, q, hA0, hV, rfl, hfz, hnd⟩ := hW
  have hA : DataW.TrodAll enc Try.prog W 0 (fun _ => true) true Try.f3.params.toList args.toList ds p := hA0
  rw [Try.params3] at hA hval
  obtain ⟨v0, vs0, d0, ds0, p0, q0, hargs, rfl, rfl, h0, r0⟩ := trodAll_cons hA
  obtain ⟨v1, vs1, d1, ds1, p1, q1, rfl, rfl, rfl, h1, r1⟩ := trodAll_cons r0
  obtain ⟨rfl, rfl, rfl⟩ := trodAll_nil r1
  obtain rfl : args = #[v0, v1] := by cases args; simp_all
  obtain ⟨rfl, rfl⟩ := trodVars_none hV
  obtain ⟨a0, len0, cap0, rfl⟩ := okWide_slice Try.underlying22 (hval 0 22 v0 rfl rfl)
  have k0 := h0
  have lt0 : ∀ x ∈ p0, x.block < W.heap.size := by obtain ⟨m, hm⟩ := k0; exact DataW.trod_lt m _ _ _ hm
  obtain ⟨z0, w0⟩ : ∃ zs, IsRow .u8 W a0 len0 cap0 zs := by
    obtain ⟨fuel, hf⟩ := h0
    rcases open_ints Try.underlying22 Try.underlying5 (by kernel_rfl) hf with ⟨hcs, _⟩ | ⟨x, l, c, zs, hcs, _, hl, hm, hz, _, hcell, hwz⟩
    · simp [Value.cells] at hcs
      obtain ⟨rfl, rfl, rfl⟩ := hcs
      exact ⟨[], .inl ⟨rfl, rfl, rfl, rfl⟩⟩
    · simp [Value.cells] at hcs
      obtain ⟨rfl, rfl, rfl⟩ := hcs
      exact ⟨zs, .inr ⟨_, rfl, hl, hm, by simpa using hz, hcell, hwz⟩⟩
  obtain ⟨a1, len1, cap1, rfl⟩ := okWide_slice Try.underlying22 (hval 1 22 v1 rfl rfl)
  have k1 := h1
  have lt1 : ∀ x ∈ p1, x.block < W.heap.size := by obtain ⟨m, hm⟩ := k1; exact DataW.trod_lt m _ _ _ hm
  obtain ⟨z1, w1⟩ : ∃ zs, IsRow .u8 W a1 len1 cap1 zs := by
    obtain ⟨fuel, hf⟩ := h1
    rcases open_ints Try.underlying22 Try.underlying5 (by kernel_rfl) hf with ⟨hcs, _⟩ | ⟨x, l, c, zs, hcs, _, hl, hm, hz, _, hcell, hwz⟩
    · simp [Value.cells] at hcs
      obtain ⟨rfl, rfl, rfl⟩ := hcs
      exact ⟨[], .inl ⟨rfl, rfl, rfl, rfl⟩⟩
    · simp [Value.cells] at hcs
      obtain ⟨rfl, rfl, rfl⟩ := hcs
      exact ⟨zs, .inr ⟨_, rfl, hl, hm, by simpa using hz, hcell, hwz⟩⟩
  clear hA0 hval0
  refine (walk a0 len0 cap0 z0 a1 len1 cap1 z1 W w0 w1).mono fun e W' ⟨he, bel⟩ => ?_
  subst he
  exact ⟨_, rfl, _, _, _, [], _, [], hW', trodAll_mk1 (shut_bool Try.underlying4 _), (trodAll_cons_mk (Below.trod laidOut (by kernel_rfl) (of_decide_eq_true (by kernel_rfl)) k0 bel lt0) (trodAll_cons_mk (Below.trod laidOut (by kernel_rfl) (of_decide_eq_true (by kernel_rfl)) k1 bel lt1) trodAll_mk0)), rfl, bel.frame _, fun h => by cases h⟩

theorem over : Rows.fnTokenOrderRow.holds Try.pinned (OpenSpec.ofChange Rows.fnTokenOrderSpec) :=
  OpenClaim.holds_of_wide 3 Try.f3 rfl rfl rfl rfl rfl rfl rfl ⟨rfl, rfl, rfl, rfl, rfl⟩ rfl rfl rfl rfl rfl (by kernel_rfl) Try.func3 (by kernel_rfl)
    (of_decide_eq_true (by kernel_rfl)) (by unfold Func.isWrapper; first | (rw [if_pos (by decide +kernel)]; kernel_rfl) | (rw [if_neg (by decide +kernel)]; exact ⟨rfl, rfl⟩))
    (fun os started H enc _ => lifted os started H enc)
end Go.Proofs.Ytainilaogielhaa.fnTokenOrder

namespace Go.Proofs.Ytainilaogielhaa
/-- The given statement. -/
theorem fnTokenOrder_holds : Rows.FnTokenOrderSaid := fnTokenOrder.over
#print axioms fnTokenOrder_holds
end Go.Proofs.Ytainilaogielhaa
