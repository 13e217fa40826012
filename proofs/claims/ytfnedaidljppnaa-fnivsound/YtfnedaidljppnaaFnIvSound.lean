/- Proved here: whatever the arguments, a call of laws.FnIvSound returns true and leaves its arguments as they were. No condition beside the row's own. -/
import Derived.Test.YtfnedaidljppnaaRows
import Derived.WalkKit
import Derived.ProofKit
import Derived.OpenShut
import Derived.ShutString
import Derived.ChangeOld
import Derived.Below
import Derived.Lib.SmallJoins
import Derived.Test.YtfnedaidljppnaaReadC
import Derived.Test.YtfnedaidljppnaaDrawC
import Derived.Test.YtfnedaidljppnaaIvC
import Derived.Test.YtfnedaidljppnaaIvD
import Derived.Test.YtfnedaidljppnaaTwoE
import Derived.Test.YtfnedaidljppnaaTwoO
namespace Go.Proofs.Ytfnedaidljppnaa.fnIvSound
open Go.Iv
open Go.ChangeShapes Go.WideShapes Go.ChangeAt Go.RowKit
open Go.ChangeMaps (open_string shut_string)
set_option linter.unusedVariables false
set_option linter.unusedSimpArgs false

theorem own : ownKnob Try.prog.godebug = none := by kernel_rfl
theorem laidOut : laidOutB Try.prog = true := by kernel_rfl

/-- What the walk is told of a slice of integers that came in. -/
def IsRow (k : IntKind) (w : World) (a : Option Addr) (len cap : Nat) (zs : List Int) : Prop :=
  (a = none ∧ len = 0 ∧ cap = 0 ∧ zs = []) ∨
  ∃ x, a = some x ∧ len ≤ cap ∧ cap ≤ maxLen ∧ zs.length = cap ∧ (∀ i, i < zs.length → w.cell? (x.add i) = some (.int k (zs.getD i 0))) ∧ ∀ n ∈ zs, (Lit.int k n).wf = true

/-! The walk of the law. -/
set_option maxRecDepth 100000 in
set_option maxHeartbeats 16000000 in
theorem walk (a0 : Option Addr) (len0 cap0 : Nat) (z0 : List Int) (w : World) (w0 : IsRow .u8 w a0 len0 cap0 z0) :
    Calls Try.prog 3 #[.slice a0 len0 cap0] w fun e w' => e = .returned (.bool true) ∧ Below w.heap.size w w' := by
  --HEAVIER
  by_cases hbig : 1048576 < len0
  · have hm := row_len w0
    clear w0
    go_enter Try.func3, Try.ntmps3
    go_wp2_with fail
    refine (big_yes _ _ _ hbig hm _).mono ?_
    rintro e w' ⟨rfl, rfl⟩
    go_wp2
    go_ret
    exact ⟨rfl, Below.refl _ _⟩
  have hs : len0 ≤ 1048576 := by omega
  have CD := hide (code_of_row w0 hs)
  clear w0 hbig
  go_enter Try.func3, Try.ntmps3
  go_wp2_with fail
  refine (big_c _ _ _ hs _).mono ?_
  rintro e w' ⟨rfl, rfl⟩
  go_wp2_with fail
  refine (DrawIvAdd_c _ _ _ _ (unhide CD)).mono ?_
  rintro e w1 ⟨al, ah, bl, bh, rfl, hal, hah, hbl, hbh, hb⟩
  have HI := hide (And.intro hal (And.intro hah (And.intro hbl hbh)))
  have HS := hide (show S2 w' w'.heap.size w1.heap.size al ah bl bh ((w1.alloc (Obj.cells #[.int .i64 al, .int .i64 ah] 25)).alloc (Obj.cells #[.int .i64 bl, .int .i64 bh] 25)) from ⟨by simp, by simp, by simp, by simp, (hb.alloc hb.size _).alloc (by have := hb.size; simp; omega) _, by have := hb.size; simp; omega, by simp⟩)
  clear hal hah hbl hbh hb
  go_wp2_with fail
  generalize (w1.alloc (Obj.cells #[.int .i64 al, .int .i64 ah] 25)).alloc (Obj.cells #[.int .i64 bl, .int .i64 bh] 25) = W2 at HS ⊢
  generalize w1.heap.size = A at HS ⊢
  refine (byteOf_c _ _ _ 4 (by decide) _ ((unhide CD).below (unhide HS).2.2.2.2.1)).mono ?_
  rintro e w1' ⟨n, rfl, n0, n1, rfl⟩
  have s0 := (unhide HS).1
  have s1 := (unhide HS).2.1
  have s2 := (unhide HS).2.2.1
  have s3 := (unhide HS).2.2.2.1
  go_wp2_with fail
  clear s0 s1 s2 s3
  obtain ⟨k, hk⟩ : ∃ k, k = n % 5 := ⟨_, rfl⟩
  have k0 : 0 ≤ k := by omega
  have k4 : k ≤ 4 := by omega
  rw [← hk]
  clear hk n0 n1
  refine (op_any k al ah bl bh k0 k4 (unhide HI).1 (unhide HI).2.1 (unhide HI).2.2.1 (unhide HI).2.2.2 _).mono ?_
  rintro e w2 ⟨rfl, hb2⟩
  obtain ⟨V, hV⟩ : ∃ V, V = opV k al ah bl bh := ⟨_, rfl⟩
  rw [← hV]
  have HV := hide hV
  have S5 := hide (show S2 w' w'.heap.size A al ah bl bh ((w2.alloc (Obj.cells #[.int .i64 V.lo, .int .i64 V.hi, .bool V.live, .int .i64 V.al] 30)).alloc (Obj.cells #[.int .i64 V.lo, .int .i64 V.hi, .bool V.live, .int .i64 V.al] 30)) ∧ C4 w2.heap.size V.lo V.hi V.live V.al ((w2.alloc (Obj.cells #[.int .i64 V.lo, .int .i64 V.hi, .bool V.live, .int .i64 V.al] 30)).alloc (Obj.cells #[.int .i64 V.lo, .int .i64 V.hi, .bool V.live, .int .i64 V.al] 30)) ∧ C4 (w2.heap.size + 1) V.lo V.hi V.live V.al ((w2.alloc (Obj.cells #[.int .i64 V.lo, .int .i64 V.hi, .bool V.live, .int .i64 V.al] 30)).alloc (Obj.cells #[.int .i64 V.lo, .int .i64 V.hi, .bool V.live, .int .i64 V.al] 30)) from
    ⟨S2.alloc (S2.alloc (S2.call hb2 (unhide HS)) _) _, ⟨⟨by simp [go_sem], by simp [go_sem], by simp [go_sem], by simp [go_sem]⟩, by simp; omega, fun o => by simp [go_sem]⟩, ⟨⟨by simp [go_sem], by simp [go_sem], by simp [go_sem], by simp [go_sem]⟩, by simp, fun o => by simp [go_sem]⟩⟩)
  clear hb2 hV HS
  have s0 := (unhide S5).1.1
  have s1 := (unhide S5).1.2.1
  have s2 := (unhide S5).1.2.2.1
  have s3 := (unhide S5).1.2.2.2.1
  have v0 := (unhide S5).2.1.1.1
  have v1 := (unhide S5).2.1.1.2.1
  have v2 := (unhide S5).2.1.1.2.2.1
  have v3 := (unhide S5).2.1.1.2.2.2
  have u0 := (unhide S5).2.2.1.1
  have u1 := (unhide S5).2.2.1.2.1
  have u2 := (unhide S5).2.2.1.2.2.1
  have u3 := (unhide S5).2.2.1.2.2.2
  obtain ⟨C, hC⟩ : ∃ C, C = w2.heap.size := ⟨_, rfl⟩
  go_wp2_with fail
  clear s0 s1 s2 s3 v0 v1 v2 v3 u0 u1 u2 u3
  generalize (w2.alloc (Obj.cells #[.int .i64 V.lo, .int .i64 V.hi, .bool V.live, .int .i64 V.al] 30)).alloc (Obj.cells #[.int .i64 V.lo, .int .i64 V.hi, .bool V.live, .int .i64 V.al] 30) = W3 at S5 ⊢
  rw [← hC] at S5 ⊢
  clear hC
  refine (sIvOk_c _ _ _).mono ?_
  rintro e w3 ⟨rfl, hb⟩
  have S5 := hide (And.intro (S2.call hb (unhide S5).1) (And.intro (C4.call hb (unhide S5).2.1) (C4.call hb (unhide S5).2.2)))
  clear hb
  have s0 := (unhide S5).1.1
  have s1 := (unhide S5).1.2.1
  have s2 := (unhide S5).1.2.2.1
  have s3 := (unhide S5).1.2.2.2.1
  have v0 := (unhide S5).2.1.1.1
  have v1 := (unhide S5).2.1.1.2.1
  have v2 := (unhide S5).2.1.1.2.2.1
  have v3 := (unhide S5).2.1.1.2.2.2
  have u0 := (unhide S5).2.2.1.1
  have u1 := (unhide S5).2.2.1.2.1
  have u2 := (unhide S5).2.2.1.2.2.1
  have u3 := (unhide S5).2.2.1.2.2.2
  by_cases h1 : al ≤ ah
  · have o1 : okB al ah = true := decide_eq_true h1
    go_wp2_with fail
    refine (sIvOk_c _ _ _).mono ?_
    rintro e w4 ⟨rfl, hb⟩
    have S5 := hide (And.intro (S2.call hb (unhide S5).1) (And.intro (C4.call hb (unhide S5).2.1) (C4.call hb (unhide S5).2.2)))
    clear hb
    clear s0 s1 s2 s3 v0 v1 v2 v3 u0 u1 u2 u3
    have s0 := (unhide S5).1.1
    have s1 := (unhide S5).1.2.1
    have s2 := (unhide S5).1.2.2.1
    have s3 := (unhide S5).1.2.2.2.1
    have v0 := (unhide S5).2.1.1.1
    have v1 := (unhide S5).2.1.1.2.1
    have v2 := (unhide S5).2.1.1.2.2.1
    have v3 := (unhide S5).2.1.1.2.2.2
    have u0 := (unhide S5).2.2.1.1
    have u1 := (unhide S5).2.2.1.2.1
    have u2 := (unhide S5).2.2.1.2.2.1
    have u3 := (unhide S5).2.2.1.2.2.2
    by_cases h2 : bl ≤ bh
    · have o2 : okB bl bh = true := decide_eq_true h2
      have H1 := hide h1
      have H2 := hide h2
      clear h1 h2
      go_wp2_with fail
      refine (within_c al ah (unhide HI).1 (unhide HI).2.1 (unhide H1) _ _ _ 1 (by decide) _ ((unhide CD).below (unhide S5).1.2.2.2.2.1)).mono ?_
      rintro e w5 ⟨x, rfl, x1, x2, hb⟩
      have HX := hide (And.intro x1 x2)
      have S5 := hide (And.intro (S2.call hb (unhide S5).1) (And.intro (C4.call hb (unhide S5).2.1) (C4.call hb (unhide S5).2.2)))
      clear hb x1 x2
      clear s0 s1 s2 s3 v0 v1 v2 v3 u0 u1 u2 u3
      have s0 := (unhide S5).1.1
      have s1 := (unhide S5).1.2.1
      have s2 := (unhide S5).1.2.2.1
      have s3 := (unhide S5).1.2.2.2.1
      have v0 := (unhide S5).2.1.1.1
      have v1 := (unhide S5).2.1.1.2.1
      have v2 := (unhide S5).2.1.1.2.2.1
      have v3 := (unhide S5).2.1.1.2.2.2
      have u0 := (unhide S5).2.2.1.1
      have u1 := (unhide S5).2.2.1.2.1
      have u2 := (unhide S5).2.2.1.2.2.1
      have u3 := (unhide S5).2.2.1.2.2.2
      go_wp2_with fail
      refine (within_c bl bh (unhide HI).2.2.1 (unhide HI).2.2.2 (unhide H2) _ _ _ 5 (by decide) _ ((unhide CD).below (unhide S5).1.2.2.2.2.1)).mono ?_
      rintro e w6 ⟨y, rfl, y1, y2, hb⟩
      have HY := hide (And.intro y1 y2)
      have S5 := hide (And.intro (S2.call hb (unhide S5).1) (And.intro (C4.call hb (unhide S5).2.1) (C4.call hb (unhide S5).2.2)))
      clear hb y1 y2
      clear s0 s1 s2 s3 v0 v1 v2 v3 u0 u1 u2 u3
      have s0 := (unhide S5).1.1
      have s1 := (unhide S5).1.2.1
      have s2 := (unhide S5).1.2.2.1
      have s3 := (unhide S5).1.2.2.2.1
      have v0 := (unhide S5).2.1.1.1
      have v1 := (unhide S5).2.1.1.2.1
      have v2 := (unhide S5).2.1.1.2.2.1
      have v3 := (unhide S5).2.1.1.2.2.2
      have u0 := (unhide S5).2.2.1.1
      have u1 := (unhide S5).2.2.1.2.1
      have u2 := (unhide S5).2.2.1.2.2.1
      have u3 := (unhide S5).2.2.1.2.2.2
      have HJ := hide (show In x ∧ In y by have a := unhide HI; have b := unhide HX; have c := unhide HY; unfold In at a ⊢; omega)
      go_wp2_with fail
      refine (num_any k x y k0 k4 (unhide HJ).1 (unhide HJ).2 _).mono ?_
      rintro e w7 ⟨rfl, m, rfl⟩
      have HF := hide (sound_any k al ah bl bh x y k0 k4 (unhide HX) (unhide HY))
      rw [← unhide HV] at HF
      generalize numN k x y = nn at HF ⊢
      generalize numO k x y = oo at HF ⊢
      have K := hide (below_drewN (unhide S5).1.2.2.2.2.1 m)
      by_cases hd : 3 ≤ k ∧ y = 0
      · have e1 := (unhide HF).1 hd.1 hd.2
        obtain ⟨hd1, rfl⟩ := hd
        go_wp2
        go_ret
        exact ⟨by simp, unhide K⟩
      · have HG := hide ((unhide HF).2 hd)
        clear HF
        by_cases ho : oo = 0
        · have HH := hide ((unhide HG).2 ho)
          have e1 : V.live = true := (unhide HH).1
          have e2 := (unhide HH).2
          subst ho
          by_cases hk : 3 ≤ k
          · have e3 : (y == 0) = false := by
              have : ¬ y = 0 := fun h => hd ⟨hk, h⟩
              simpa using this
            clear hd
            go_wp2_with fail
            refine (IvHas_c _ _ _ _).mono ?_
            rintro e w8 ⟨rfl, hb⟩
            have K2 := hide ((unhide K).trans (hb.mono (unhide K).size))
            clear hb
            go_wp2
            go_ret
            exact ⟨by simp, unhide K2⟩
          · clear hd
            go_wp2_with fail
            refine (IvHas_c _ _ _ _).mono ?_
            rintro e w8 ⟨rfl, hb⟩
            have K2 := hide ((unhide K).trans (hb.mono (unhide K).size))
            clear hb
            go_wp2
            go_ret
            exact ⟨by simp, unhide K2⟩
        · have e1 := (unhide HG).1 ho
          have e2 : (oo == 0) = false := by simpa using ho
          by_cases hk : 3 ≤ k
          · have e3 : (y == 0) = false := by
              have : ¬ y = 0 := fun h => hd ⟨hk, h⟩
              simpa using this
            clear hd
            go_wp2
            go_ret
            exact ⟨by simp, unhide K⟩
          · clear hd
            go_wp2
            go_ret
            exact ⟨by simp, unhide K⟩
    · have o2 : okB bl bh = false := decide_eq_false h2
      have K := hide (unhide S5).1.2.2.2.2.1
      clear h1 h2
      go_wp2
      go_ret
      exact ⟨by simp, unhide K⟩
  · have o1 : okB al ah = false := decide_eq_false h1
    have K := hide (unhide S5).1.2.2.2.2.1
    clear h1
    go_wp2
    go_ret
    exact ⟨by simp, unhide K⟩

/-! The row's step. -/
set_option maxRecDepth 100000 in
theorem lifted (os : Os) (started : os.Started) (H : Type) (enc : TypeId × Value → H) :
    ReturnsInHanded {} Try.checked os 3 .any (Rows.fnIvSoundSpec.pre6 enc Try.prog Try.f3 Rows.fnIvSoundRow.domain false) (Rows.fnIvSoundSpec.post enc Try.prog Try.f3 false true false false) := by
  refine returnsInHanded_of_change (C := Try.checked) own started (by kernel_rfl) Try.func3
    (ChangeSpec.witness6 (enc := enc) (C := Try.checked) false ⟨#[], #[.slice none 0 0], []⟩ 8 (by kernel_rfl) (by kernel_rfl) (by kernel_rfl) (by kernel_rfl)) ?_
  intro W base args ds gs before hval0 hW hcnd _
  have hval : ∀ (j : Nat) t v, Try.f3.params[j]? = some t → args[j]? = some v → Value.okWide Try.prog W .any base t v := hval0
  have hW' := hW
  obtain ⟨p, q, hA0, hV, rfl, hfz, hnd⟩ := hW
  have hA : DataW.TrodAll enc Try.prog W 0 (fun _ => true) true Try.f3.params.toList args.toList ds p := hA0
  rw [Try.params3] at hA hval
  obtain ⟨v0, vs0, d0, ds0, p0, q0, hargs, rfl, rfl, h0, r0⟩ := trodAll_cons hA
  obtain ⟨rfl, rfl, rfl⟩ := trodAll_nil r0
  obtain rfl : args = #[v0] := by cases args; simp_all
  obtain ⟨rfl, rfl⟩ := trodVars_none hV
  obtain ⟨a0, len0, cap0, rfl⟩ := okWide_slice Try.underlying22 (hval 0 22 v0 rfl rfl)
  have k0 := h0
  have lt0 : ∀ x ∈ p0, x.block < W.heap.size := by obtain ⟨m, hm⟩ := k0; exact DataW.trod_lt m _ _ _ hm
  obtain ⟨z0, w0⟩ : ∃ zs, IsRow .u8 W a0 len0 cap0 zs := by
    obtain ⟨fuel, hf⟩ := h0
    rcases open_ints Try.underlying22 Try.underlying5 (by kernel_rfl) hf with ⟨hcs, _⟩ | ⟨x, l, c, zs, hcs, _, hl, hm, hz, _, hcell, hwz⟩
    · simp [Value.cells] at hcs
      obtain ⟨rfl, rfl, rfl⟩ := hcs
      exact ⟨[], .inl ⟨rfl, rfl, rfl, rfl⟩⟩
    · simp [Value.cells] at hcs
      obtain ⟨rfl, rfl, rfl⟩ := hcs
      exact ⟨zs, .inr ⟨_, rfl, hl, hm, by simpa using hz, hcell, hwz⟩⟩
  clear hA0 hval0
  refine (walk a0 len0 cap0 z0 W w0).mono fun e W' ⟨he, bel⟩ => ?_
  subst he
  exact ⟨_, rfl, _, _, _, [], _, [], hW', trodAll_mk1 (shut_bool Try.underlying4 _), (trodAll_cons_mk (Below.trod laidOut (by kernel_rfl) (of_decide_eq_true (by kernel_rfl)) k0 bel lt0) trodAll_mk0), rfl, bel.frame _, fun h => by cases h⟩

theorem over : Rows.fnIvSoundRow.holds Try.pinned (OpenSpec.ofChange Rows.fnIvSoundSpec) :=
  OpenClaim.holds_of_wide 3 Try.f3 rfl rfl rfl rfl rfl rfl rfl ⟨rfl, rfl, rfl, rfl, rfl⟩ rfl rfl rfl rfl rfl (by kernel_rfl) Try.func3 (by kernel_rfl)
    (of_decide_eq_true (by kernel_rfl)) (by unfold Func.isWrapper; first | (rw [if_pos (by decide +kernel)]; kernel_rfl) | (rw [if_neg (by decide +kernel)]; exact ⟨rfl, rfl⟩))
    (fun os started H enc _ => lifted os started H enc)
end Go.Proofs.Ytfnedaidljppnaa.fnIvSound

namespace Go.Proofs.Ytfnedaidljppnaa
/-- The given statement. -/
theorem fnIvSound_holds : Rows.FnIvSoundSaid := fnIvSound.over
#print axioms fnIvSound_holds
end Go.Proofs.Ytfnedaidljppnaa
