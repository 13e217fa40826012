/- Right bounds, as the program asks for them; rows of intervals that came in. -/
import Derived.Test.YthldhjifnpfmiaaGreatDoorEnvG
import Derived.Test.YthldhjifnpfmiaaGreatDoorLawD
namespace Go.Proofs.YthldhjifnpfmiaaGreatDoor
open Go.ChangeShapes Go.WideShapes Go.ChangeAt Go.RowKit
set_option linter.unusedSimpArgs false

set_option maxRecDepth 20000 in
set_option maxHeartbeats 4000000 in
theorem iEnvOk_c (a1 a2 a3 c1 c2 c3 : Nat) (vs fs : List ByteArray) (rs : List (ByteArray × Int)) (li : Bool) (e1 e2 d1 d2 : Nat) (xs ys : List (Int × Int)) (w : World) (hw : KW w) (hv : Strs w (some ⟨a1, 0, none⟩) vs) (hf : Strs w (some ⟨a2, 0, none⟩) fs) (hr : Arrs w (some ⟨a3, 0, none⟩) rs)
    (hz : ∀ x ∈ namesOf vs fs rs, x.size ≤ 1048576) (hx : Ivs w (some ⟨e1, 0, none⟩) xs) (hy : Ivs w (some ⟨e2, 0, none⟩) ys) :
    Calls Tryz.prog 84 #[.agg #[.slice (some ⟨a1, 0, none⟩) vs.length c1, .slice (some ⟨a2, 0, none⟩) fs.length c2, .slice (some ⟨a3, 0, none⟩) rs.length c3], .agg #[.bool li, .slice (some ⟨e1, 0, none⟩) xs.length d1, .slice (some ⟨e2, 0, none⟩) ys.length d2]] w
    fun e w' => e = .returned (.bool (envB vs fs rs li xs ys)) ∧ Below w.heap.size w w' := by
  have HW := hide hw
  have HV := hide hv
  have HF := hide hf
  have HR := hide hr
  have HZ := hide hz
  have HX := hide hx
  have HY := hide hy
  have T0 := (C3.new w (.slice (some ⟨a1, 0, none⟩) vs.length c1) (.slice (some ⟨a2, 0, none⟩) fs.length c2) (.slice (some ⟨a3, 0, none⟩) rs.length c3) 40).alloc (Obj.cells #[.bool li, .slice (some ⟨e1, 0, none⟩) xs.length d1, .slice (some ⟨e2, 0, none⟩) ys.length d2] 69)
  have T1 := C3.new (w.alloc (Obj.cells #[.slice (some ⟨a1, 0, none⟩) vs.length c1, .slice (some ⟨a2, 0, none⟩) fs.length c2, .slice (some ⟨a3, 0, none⟩) rs.length c3] 40)) (.bool li) (.slice (some ⟨e1, 0, none⟩) xs.length d1) (.slice (some ⟨e2, 0, none⟩) ys.length d2) 69
  have K0 : Below w.heap.size w ((w.alloc (Obj.cells #[.slice (some ⟨a1, 0, none⟩) vs.length c1, .slice (some ⟨a2, 0, none⟩) fs.length c2, .slice (some ⟨a3, 0, none⟩) rs.length c3] 40)).alloc (Obj.cells #[.bool li, .slice (some ⟨e1, 0, none⟩) xs.length d1, .slice (some ⟨e2, 0, none⟩) ys.length d2] 69)) := ((Below.refl _ _).alloc (Nat.le_refl _) _).alloc (by simp) _
  rw [show (w.alloc (Obj.cells #[.slice (some ⟨a1, 0, none⟩) vs.length c1, .slice (some ⟨a2, 0, none⟩) fs.length c2, .slice (some ⟨a3, 0, none⟩) rs.length c3] 40)).heap.size = w.heap.size + 1 by simp] at T1
  have HT0 := hide T0
  have HT1 := hide T1
  have HK := hide K0
  clear T0 T1 K0 hv hf hr hz hx hy hw
  go_enter Tryz.func84, Tryz.ntmps84
  go_wp2_with fail
  generalize (w.alloc (Obj.cells #[.slice (some ⟨a1, 0, none⟩) vs.length c1, .slice (some ⟨a2, 0, none⟩) fs.length c2, .slice (some ⟨a3, 0, none⟩) rs.length c3] 40)).alloc (Obj.cells #[.bool li, .slice (some ⟨e1, 0, none⟩) xs.length d1, .slice (some ⟨e2, 0, none⟩) ys.length d2] 69) = u at HT0 HT1 HK ⊢
  refine (iDeclOk_c a1 a2 a3 _ _ _ vs fs rs _ ((unhide HW).call (unhide HK)) ((unhide HV).call (unhide HK)) ((unhide HF).call (unhide HK)) ((unhide HR).call (unhide HK)) (unhide HZ)).mono ?_
  rintro e u1 ⟨rfl, kb⟩
  have HT0 := hide ((unhide HT0).call kb)
  have HT1 := hide ((unhide HT1).call kb)
  have HK := hide ((unhide HK).trans (kb.mono (unhide HK).size))
  clear kb
  have HE := hide (show envB vs fs rs li xs ys = (declB vs fs rs && fitB vs.length rs.length li xs ys) from rfl)
  cases hd : declB vs fs rs
  · rw [hd] at HE
    clear hd
    go_wp2
    go_ret
    exact ⟨by rw [unhide HE]; rfl, unhide HK⟩
  rw [hd, Bool.true_and] at HE
  obtain ⟨hl1, hl2, hl3⟩ := declB_len hd
  clear hd hl2
  go_wp2_with fail
  refine (fits_c (w.heap.size + 1) w.heap.size a1 a2 a3 c1 c2 c3 vs fs rs li e1 e2 d1 d2 xs ys _ (unhide HT0) (unhide HT1) hl1 hl3 ((unhide HX).call (unhide HK)) ((unhide HY).call (unhide HK))).mono ?_
  rintro e u2 ⟨rfl, kb⟩
  have HK := hide ((unhide HK).trans (kb.mono (unhide HK).size))
  clear kb
  go_wp2
  go_ret
  exact ⟨by rw [unhide HE]; rfl, unhide HK⟩
theorem openT {H : Type} {enc : TypeId × Value → H} {W : World} {fuel : Nat} {v : Value} {y : DataW H × List MemPlace} (h : DataW.trod enc Tryz.prog W 0 (fun _ => true) true fuel 4 [v] = some y) : ∃ b, v = .bool b := by
  cases fuel with
  | zero => simp [DataW.trod] at h
  | succ n =>
    cases v <;> simp [DataW.trod, Tryz.underlying4] at h
    exact ⟨_, rfl⟩
theorem openV {H : Type} {enc : TypeId × Value → H} {W : World} {fuel : Nat} {v : Value} {y : DataW H × List MemPlace} (h : DataW.trod enc Tryz.prog W 0 (fun _ => true) true fuel 120 [v] = some y) : ∃ a cap xs, v = .slice a (List.length xs) cap ∧ IvsA W a xs := by
  rcases Deep.open_slice_pairs Tryz.underlying120 Tryz.underlying159 (by kernel_rfl) rfl rfl (by kernel_rfl) (by kernel_rfl) h with ⟨hcs, _⟩ | ⟨a, len, cap, m, n, V0, V1, D0, D1, P0, P1, hcs, _, hl, hm, hmm, _, hcell⟩
  · simp at hcs
    subst hcs
    exact ⟨none, 0, [], rfl, by simp, .inl rfl⟩
  · simp at hcs hmm
    subst hcs hmm
    have ml : maxLen ≤ 9223372036854775807 := by decide
    have each : ∀ i, i < len → ∃ q : Int × Int, V0 i = .int .i64 q.1 ∧ V1 i = .int .i64 q.2 := fun i hi => by
      obtain ⟨_, _, h0, h1⟩ := hcell i (by omega)
      obtain ⟨s, e1, _⟩ := DataW.trod_int Tryz.underlying2 h0
      obtain ⟨k, e2, _⟩ := DataW.trod_int Tryz.underlying2 h1
      exact ⟨(s, k), by simpa using e1, by simpa using e2⟩
    obtain ⟨Q, hQ⟩ := Deep.choose_lt each
    refine ⟨some a, m, (List.range len).map Q, by simp, by simp; omega, ?_⟩
    by_cases h0 : len = 0
    · exact .inl (by simp [h0])
    · have c0 := (hcell 0 (by omega)).1
      have ea := addr_none c0
      refine .inr ⟨a.block, a.off, by rw [← ea], fun i hi => ?_⟩
      simp at hi
      obtain ⟨c1, c2, _, _⟩ := hcell i (by omega)
      rw [ea, Addr.add_lit, (hQ i (by omega)).1] at c1
      rw [ea, Addr.add_lit, (hQ i (by omega)).2] at c2
      exact ⟨by simpa using c1, by simpa [Nat.add_assoc] using c2⟩
end Go.Proofs.YthldhjifnpfmiaaGreatDoor
