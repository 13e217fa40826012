/- The program's remainders. -/
import Derived.Test.YtfnedaidljppnaaOpC
import Derived.Deep.RegionHeld3
import Derived.Deep.DeepCutAuto
import Derived.Deep.DrawnRows
namespace Go.Proofs.Ytfnedaidljppnaa
open Go.RowKit Go.Iv
set_option linter.unusedSimpArgs false

theorem xor_ones (n : Int) (h : In n) : bits .xor .i64 (-1) n = -n - 1 := by
  unfold In at h
  show IntKind.i64.wrap ((BitVec.ofInt 64 (-1) ^^^ BitVec.ofInt 64 n).toNat : Int) = _
  have e : BitVec.ofInt 64 (-1) = BitVec.allOnes 64 := by decide
  rw [e, BitVec.allOnes_xor, BitVec.toNat_not, BitVec.toNat_ofInt, IntKind.wrap_i64]
  omega
def sh (n : Int) : Int := if n < 0 then -n - 1 else n - 1
theorem sh_in (n : Int) (h : In n) : -1 ≤ sh n ∧ sh n ≤ 9223372036854775807 := by
  unfold In at h; unfold sh; split <;> omega
theorem shortOf_c (n : Int) (h : In n) (w : World) : Calls Try.prog 69 #[.int .i64 n] w fun e w' => e = .returned (.int .i64 (sh n)) ∧ w' = w := by
  have HX := hide (xor_ones n h)
  unfold In at h
  obtain ⟨h1, h2⟩ := h
  by_cases h0 : n < 0
  · have HS := hide (show -n - 1 = sh n by unfold sh; rw [if_pos h0])
    go_enter Try.func69, Try.ntmps69
    go_wp2
    rw [unhide HX, unhide HS]
    go_ret
    exact ⟨rfl, rfl⟩
  · have HS := hide (show n - 1 = sh n by unfold sh; rw [if_neg h0])
    go_enter Try.func69, Try.ntmps69
    go_wp2
    rw [unhide HS]
    go_ret
    exact ⟨rfl, rfl⟩

/-- The ends of what is left. -/
def reL (al ah bl bh : Int) : Int := if al = ah ∧ bl = bh then reN al bl else mn 0 (mx (-(mx (sh bl) (sh bh))) al)
def reH (al ah bl bh : Int) : Int := if al = ah ∧ bl = bh then reN al bl else mx 0 (mn (mx (sh bl) (sh bh)) ah)
theorem rests1 (al ah bl bh : Int) (hal : In al) (h1 : al = ah) (h2 : bl = bh) (w : World) : Calls Try.prog 54 #[.agg #[.int .i64 al, .int .i64 ah], .agg #[.int .i64 bl, .int .i64 bh]] w fun e w' => e = .returned (.agg #[.int .i64 (reL al ah bl bh), .int .i64 (reH al ah bl bh)]) ∧ Below w.heap.size w w' := by
  have HR := hide (show reL al ah bl bh = reN al bl ∧ reH al ah bl bh = reN al bl from ⟨if_pos ⟨h1, h2⟩, if_pos ⟨h1, h2⟩⟩)
  rw [(unhide HR).1, (unhide HR).2]
  clear HR
  subst h1 h2
  have HA := hide hal
  clear hal
  go_enter Try.func54, Try.ntmps54
  go_wp2_with fail
  refine (NumRem_c _ _ (unhide HA) _).mono ?_
  rintro e w1 ⟨rfl, rfl⟩
  go_wp2
  exact bodyPost_ret (v := .agg #[.int .i64 (reN al bl), .int .i64 (reN al bl)]) (by simp [results, Try.results54, go_sem]) rfl ⟨rfl, ((((Below.refl _ _).alloc (Nat.le_refl _) _).alloc (by simp) _).alloc (by simp; omega) _)⟩
theorem neg_fit (x : Int) (h : -1 ≤ x ∧ x ≤ 9223372036854775807) : IntKind.i64.wrap (-x) = -x := by rw [IntKind.wrap_i64]; omega
set_option maxHeartbeats 1000000 in
theorem rests2 (al ah bl bh : Int) (hbl : In bl) (hbh : In bh) (h1 : ¬ (al = ah ∧ bl = bh)) (w : World) : Calls Try.prog 54 #[.agg #[.int .i64 al, .int .i64 ah], .agg #[.int .i64 bl, .int .i64 bh]] w fun e w' => e = .returned (.agg #[.int .i64 (reL al ah bl bh), .int .i64 (reH al ah bl bh)]) ∧ Below w.heap.size w w' := by
  have HR := hide (show reL al ah bl bh = mn 0 (mx (-(mx (sh bl) (sh bh))) al) ∧ reH al ah bl bh = mx 0 (mn (mx (sh bl) (sh bh)) ah) from ⟨if_neg h1, if_neg h1⟩)
  rw [(unhide HR).1, (unhide HR).2]
  clear HR
  have q0 := hmx (sh bl) (sh bh)
  obtain ⟨M, hM⟩ : ∃ M, M = mx (sh bl) (sh bh) := ⟨_, rfl⟩
  have hb : -1 ≤ M ∧ M ≤ 9223372036854775807 := by rw [hM, mx_eq]; have := sh_in bl hbl; have := sh_in bh hbh; omega
  obtain ⟨b1, b2⟩ := hb
  rw [← hM] at q0 ⊢
  have q1 := hmx (-M) al
  have q2 := hmn 0 (mx (-M) al)
  have q3 := hmn M ah
  have q4 := hmx 0 (mn M ah)
  have HI := hide (And.intro hbl hbh)
  clear hM hbl hbh
  by_cases e1 : al = ah
  · have e2 : ¬ bl = bh := fun h => h1 ⟨e1, h⟩
    subst e1
    clear h1
    go_enter Try.func54, Try.ntmps54
    go_wp2
    go_quiet (first
      | (go_at_call_of 69 (Value.int IntKind.i64 bl); exact Calls.quiet_of_same (shortOf_c _ (unhide HI).1 _))
      | (go_at_call_of 69 (Value.int IntKind.i64 bh); exact Calls.quiet_of_same (shortOf_c _ (unhide HI).2 _)))
    go_wp2
    exact bodyPost_ret (v := .agg #[.int .i64 (mn 0 (mx (-M) al)), .int .i64 (mx 0 (mn M al))]) (by simp [results, Try.results54, go_sem]) rfl ⟨rfl, ((below_drewN ((((Below.refl _ _).alloc (Nat.le_refl _) _).alloc (by simp) _).alloc (by simp; omega) _) _).setCell (by simp; omega) _).setCell (by simp; omega) _⟩
  · clear h1
    have e2 : (al == ah) = false := by simpa using e1
    go_enter Try.func54, Try.ntmps54
    go_wp2
    go_quiet (first
      | (go_at_call_of 69 (Value.int IntKind.i64 bl); exact Calls.quiet_of_same (shortOf_c _ (unhide HI).1 _))
      | (go_at_call_of 69 (Value.int IntKind.i64 bh); exact Calls.quiet_of_same (shortOf_c _ (unhide HI).2 _)))
    go_wp2
    exact bodyPost_ret (v := .agg #[.int .i64 (mn 0 (mx (-M) al)), .int .i64 (mx 0 (mn M ah))]) (by simp [results, Try.results54, go_sem]) rfl ⟨rfl, ((below_drewN ((((Below.refl _ _).alloc (Nat.le_refl _) _).alloc (by simp) _).alloc (by simp; omega) _) _).setCell (by simp; omega) _).setCell (by simp; omega) _⟩
theorem restsOf_c (al ah bl bh : Int) (hal : In al) (hbl : In bl) (hbh : In bh) (w : World) : Calls Try.prog 54 #[.agg #[.int .i64 al, .int .i64 ah], .agg #[.int .i64 bl, .int .i64 bh]] w fun e w' => e = .returned (.agg #[.int .i64 (reL al ah bl bh), .int .i64 (reH al ah bl bh)]) ∧ Below w.heap.size w w' := by
  by_cases h : al = ah ∧ bl = bh
  · exact rests1 al ah bl bh hal h.1 h.2 w
  · exact rests2 al ah bl bh hbl hbh h w
end Go.Proofs.Ytfnedaidljppnaa
