/- Right bounds, as the program asks for them; rows of intervals that came in. -/
import Derived.Test.YthpnbmdmkmkicaaDoorEnvG
import Derived.Test.YthpnbmdmkmkicaaDoorLawD
namespace Go.Proofs.YthpnbmdmkmkicaaDoor
open Go.ChangeShapes Go.WideShapes Go.ChangeAt Go.RowKit
set_option linter.unusedSimpArgs false

set_option maxRecDepth 20000 in
set_option maxHeartbeats 4000000 in
theorem iEnvOk_c (a1 a2 a3 : Option Addr) (c1 c2 c3 : Nat) (vs fs : List ByteArray) (rs : List (ByteArray × Int)) (li : Bool) (e1 e2 : Option Addr) (d1 d2 : Nat) (xs ys : List (Int × Int)) (w : World) (hw : KW w) (hv : Strs w a1 vs) (hf : Strs w a2 fs) (hr : Arrs w a3 rs)
    (hz : ∀ x ∈ namesOf vs fs rs, x.size ≤ 1048576) (hx : Ivs w e1 xs) (hy : Ivs w e2 ys) :
    Calls Tryd.prog 12 #[.agg #[.slice a1 vs.length c1, .slice a2 fs.length c2, .slice a3 rs.length c3], .agg #[.bool li, .slice e1 xs.length d1, .slice e2 ys.length d2]] w
    fun e w' => e = .returned (.bool (envB vs fs rs li xs ys)) ∧ Below w.heap.size w w' := by
  have HW := hide hw
  have HV := hide hv
  have HF := hide hf
  have HR := hide hr
  have HZ := hide hz
  have HX := hide hx
  have HY := hide hy
  have T0 := (C3.new w (.slice a1 vs.length c1) (.slice a2 fs.length c2) (.slice a3 rs.length c3) 27).alloc (Obj.cells #[.bool li, .slice e1 xs.length d1, .slice e2 ys.length d2] 30)
  have T1 := C3.new (w.alloc (Obj.cells #[.slice a1 vs.length c1, .slice a2 fs.length c2, .slice a3 rs.length c3] 27)) (.bool li) (.slice e1 xs.length d1) (.slice e2 ys.length d2) 30
  have K0 : Below w.heap.size w ((w.alloc (Obj.cells #[.slice a1 vs.length c1, .slice a2 fs.length c2, .slice a3 rs.length c3] 27)).alloc (Obj.cells #[.bool li, .slice e1 xs.length d1, .slice e2 ys.length d2] 30)) := ((Below.refl _ _).alloc (Nat.le_refl _) _).alloc (by simp) _
  rw [show (w.alloc (Obj.cells #[.slice a1 vs.length c1, .slice a2 fs.length c2, .slice a3 rs.length c3] 27)).heap.size = w.heap.size + 1 by simp] at T1
  have HT0 := hide T0
  have HT1 := hide T1
  have HK := hide K0
  clear T0 T1 K0 hv hf hr hz hx hy hw
  go_enter Tryd.func12, Tryd.ntmps12
  go_wp2_with fail
  generalize (w.alloc (Obj.cells #[.slice a1 vs.length c1, .slice a2 fs.length c2, .slice a3 rs.length c3] 27)).alloc (Obj.cells #[.bool li, .slice e1 xs.length d1, .slice e2 ys.length d2] 30) = u at HT0 HT1 HK ⊢
  refine (iDeclOk_c a1 a2 a3 _ _ _ vs fs rs _ ((unhide HW).call (unhide HK)) ((unhide HV).call (unhide HK)) ((unhide HF).call (unhide HK)) ((unhide HR).call (unhide HK)) (unhide HZ)).mono ?_
  rintro e u1 ⟨rfl, kb⟩
  have HT0 := hide ((unhide HT0).call kb)
  have HT1 := hide ((unhide HT1).call kb)
  have HK := hide ((unhide HK).trans (kb.mono (unhide HK).size))
  clear kb
  have HE := hide (show envB vs fs rs li xs ys = (declB vs fs rs && fitB vs.length rs.length li xs ys) from rfl)
  cases hd : declB vs fs rs
  · rw [hd] at HE
    clear hd
    go_wp2
    go_ret
    exact ⟨by rw [unhide HE]; rfl, unhide HK⟩
  rw [hd, Bool.true_and] at HE
  obtain ⟨hl1, hl2, hl3⟩ := declB_len hd
  clear hd hl2
  go_wp2_with fail
  refine (fits_c (w.heap.size + 1) w.heap.size a1 a2 a3 c1 c2 c3 vs fs rs li e1 e2 d1 d2 xs ys _ (unhide HT0) (unhide HT1) hl1 hl3 ((unhide HX).call (unhide HK)) ((unhide HY).call (unhide HK))).mono ?_
  rintro e u2 ⟨rfl, kb⟩
  have HK := hide ((unhide HK).trans (kb.mono (unhide HK).size))
  clear kb
  go_wp2
  go_ret
  exact ⟨by rw [unhide HE]; rfl, unhide HK⟩
theorem openT {H : Type} {enc : TypeId × Value → H} {W : World} {fuel : Nat} {v : Value} {y : DataW H × List MemPlace} (h : DataW.trod enc Tryd.prog W 0 (fun _ => true) true fuel 4 [v] = some y) : ∃ b, v = .bool b := by
  cases fuel with
  | zero => simp [DataW.trod] at h
  | succ n =>
    cases v <;> simp [DataW.trod, Tryd.underlying4] at h
    exact ⟨_, rfl⟩
end Go.Proofs.YthpnbmdmkmkicaaDoor
