/- Right bounds, as the specification asks for them. -/
import Derived.Test.YthldhjifnpfmiaaGreatDoorEnvD
namespace Go.Proofs.YthldhjifnpfmiaaGreatDoor
open Go.RowKit
set_option linter.unusedSimpArgs false

def ivsP (l : List (Int × Int)) : Prop := ∀ k, (h : k < l.length) → l[k].1 ≤ l[k].2
instance (l : List (Int × Int)) : Decidable (ivsP l) := by unfold ivsP; infer_instance
/-- Right bounds of a declaration that is right. -/
def fitP (m n : Nat) (li : Bool) (xs ys : List (Int × Int)) : Prop := (li = false ∧ xs.length = 0 ∧ ys.length = 0) ∨ (li = true ∧ xs.length = m ∧ ys.length = n ∧ ivsP (xs ++ ys))
instance (m n : Nat) (li : Bool) (xs ys : List (Int × Int)) : Decidable (fitP m n li xs ys) := by unfold fitP; infer_instance
def fitB (m n : Nat) (li : Bool) (xs ys : List (Int × Int)) : Bool := decide (fitP m n li xs ys)
/-- Whether the declaration is right, and the bounds are some of it. -/
def envB (vs fs : List ByteArray) (rs : List (ByteArray × Int)) (li : Bool) (xs ys : List (Int × Int)) : Bool := declB vs fs rs && fitB vs.length rs.length li xs ys
theorem declB_len {vs fs : List ByteArray} {rs : List (ByteArray × Int)} (h : declB vs fs rs = true) : vs.length ≤ 5 ∧ fs.length ≤ 3 ∧ rs.length ≤ 2 := by
  have := of_decide_eq_true h
  exact ⟨this.1, this.2.1, this.2.2.1⟩
theorem fit_false {m n : Nat} {xs ys : List (Int × Int)} : fitB m n false xs ys = decide (xs.length = 0 ∧ ys.length = 0) := by
  unfold fitB fitP
  apply decide_eq_decide.2
  simp
theorem fit_len {m n : Nat} {xs ys : List (Int × Int)} (h : ¬ (xs.length = m ∧ ys.length = n)) : fitB m n true xs ys = false := by
  apply decide_eq_false
  rintro (⟨h1, _⟩ | ⟨_, h1, h2, _⟩)
  · cases h1
  · exact h ⟨h1, h2⟩
theorem fit_true {m n : Nat} {xs ys : List (Int × Int)} (h1 : xs.length = m) (h2 : ys.length = n) : fitB m n true xs ys = decide (ivsP (xs ++ ys)) := by
  unfold fitB fitP
  apply decide_eq_decide.2
  simp [h1, h2]
set_option maxRecDepth 20000 in
set_option maxHeartbeats 4000000 in
theorem sEnvOk_c (a1 a2 a3 c1 c2 c3 : Nat) (vs fs : List ByteArray) (rs : List (ByteArray × Int)) (li : Bool) (e1 e2 d1 d2 : Nat) (xs ys : List (Int × Int)) (w : World) (hv : Strs w (some ⟨a1, 0, none⟩) vs) (hf : Strs w (some ⟨a2, 0, none⟩) fs) (hr : Arrs w (some ⟨a3, 0, none⟩) rs)
    (hz : ∀ x ∈ namesOf vs fs rs, x.size ≤ 1048576) (hx : Ivs w (some ⟨e1, 0, none⟩) xs) (hy : Ivs w (some ⟨e2, 0, none⟩) ys) :
    Calls Tryz.prog 74 #[.agg #[.slice (some ⟨a1, 0, none⟩) vs.length c1, .slice (some ⟨a2, 0, none⟩) fs.length c2, .slice (some ⟨a3, 0, none⟩) rs.length c3], .agg #[.bool li, .slice (some ⟨e1, 0, none⟩) xs.length d1, .slice (some ⟨e2, 0, none⟩) ys.length d2]] w
    fun e w' => e = .returned (.bool (envB vs fs rs li xs ys)) ∧ Below w.heap.size w w' := by
  have HV := hide hv
  have HF := hide hf
  have HR := hide hr
  have HZ := hide hz
  have HX := hide hx
  have HY := hide hy
  have T0 := (C3.new w (.slice (some ⟨a1, 0, none⟩) vs.length c1) (.slice (some ⟨a2, 0, none⟩) fs.length c2) (.slice (some ⟨a3, 0, none⟩) rs.length c3) 40).alloc (Obj.cells #[.bool li, .slice (some ⟨e1, 0, none⟩) xs.length d1, .slice (some ⟨e2, 0, none⟩) ys.length d2] 69)
  have T1 := C3.new (w.alloc (Obj.cells #[.slice (some ⟨a1, 0, none⟩) vs.length c1, .slice (some ⟨a2, 0, none⟩) fs.length c2, .slice (some ⟨a3, 0, none⟩) rs.length c3] 40)) (.bool li) (.slice (some ⟨e1, 0, none⟩) xs.length d1) (.slice (some ⟨e2, 0, none⟩) ys.length d2) 69
  have K0 : Below w.heap.size w ((w.alloc (Obj.cells #[.slice (some ⟨a1, 0, none⟩) vs.length c1, .slice (some ⟨a2, 0, none⟩) fs.length c2, .slice (some ⟨a3, 0, none⟩) rs.length c3] 40)).alloc (Obj.cells #[.bool li, .slice (some ⟨e1, 0, none⟩) xs.length d1, .slice (some ⟨e2, 0, none⟩) ys.length d2] 69)) := ((Below.refl _ _).alloc (Nat.le_refl _) _).alloc (by simp) _
  rw [show (w.alloc (Obj.cells #[.slice (some ⟨a1, 0, none⟩) vs.length c1, .slice (some ⟨a2, 0, none⟩) fs.length c2, .slice (some ⟨a3, 0, none⟩) rs.length c3] 40)).heap.size = w.heap.size + 1 by simp] at T1
  have HT0 := hide T0
  have HT1 := hide T1
  have HK := hide K0
  clear T0 T1 K0 hv hf hr hz hx hy
  go_enter Tryz.func74, Tryz.ntmps74
  go_wp2_with fail
  generalize (w.alloc (Obj.cells #[.slice (some ⟨a1, 0, none⟩) vs.length c1, .slice (some ⟨a2, 0, none⟩) fs.length c2, .slice (some ⟨a3, 0, none⟩) rs.length c3] 40)).alloc (Obj.cells #[.bool li, .slice (some ⟨e1, 0, none⟩) xs.length d1, .slice (some ⟨e2, 0, none⟩) ys.length d2] 69) = u at HT0 HT1 HK ⊢
  refine (sDeclOk_c a1 a2 a3 _ _ _ vs fs rs _ ((unhide HV).call (unhide HK)) ((unhide HF).call (unhide HK)) ((unhide HR).call (unhide HK)) (unhide HZ)).mono ?_
  rintro e u1 ⟨rfl, kb⟩
  have HT0 := hide ((unhide HT0).call kb)
  have HT1 := hide ((unhide HT1).call kb)
  have HK := hide ((unhide HK).trans (kb.mono (unhide HK).size))
  clear kb
  have HE := hide (show envB vs fs rs li xs ys = (declB vs fs rs && fitB vs.length rs.length li xs ys) from rfl)
  cases hd : declB vs fs rs
  · rw [hd] at HE
    go_wp2
    go_ret
    exact ⟨by rw [unhide HE]; rfl, unhide HK⟩
  rw [hd] at HE
  obtain ⟨hl1, hl2, hl3⟩ := declB_len hd
  clear hd hl2
  have b0 := (unhide HT0).1
  have b2 := (unhide HT0).2.2.1
  have t0 := (unhide HT1).1
  have t1 := (unhide HT1).2.1
  have t2 := (unhide HT1).2.2.1
  cases li
  · rw [fit_false, Bool.true_and] at HE
    by_cases g1 : xs.length = 0
    · by_cases g2 : ys.length = 0
      · rw [decide_eq_true (⟨g1, g2⟩ : xs.length = 0 ∧ ys.length = 0)] at HE
        rw [g1] at t1 ⊢
        rw [g2] at t2 ⊢
        clear g1 g2
        go_wp2
        go_ret
        exact ⟨by rw [unhide HE]; rfl, unhide HK⟩
      · rw [decide_eq_false (fun h : xs.length = 0 ∧ ys.length = 0 => g2 h.2)] at HE
        rw [g1] at t1 ⊢
        clear g1
        have g3 : ((ys.length : Int) == 0) = false := by rw [beq_eq_false_iff_ne]; omega
        clear g2
        go_wp2
        go_ret
        exact ⟨by rw [unhide HE]; rfl, unhide HK⟩
    · rw [decide_eq_false (fun h : xs.length = 0 ∧ ys.length = 0 => g1 h.1)] at HE
      have g3 : ((xs.length : Int) == 0) = false := by rw [beq_eq_false_iff_ne]; omega
      clear g1
      go_wp2
      go_ret
      exact ⟨by rw [unhide HE]; rfl, unhide HK⟩
  rw [Bool.true_and] at HE
  by_cases g1 : xs.length = vs.length
  case neg =>
    have HN := hide (show envB vs fs rs true xs ys = false by rw [unhide HE]; exact fit_len (fun h => g1 h.1))
    have g3 : ((xs.length : Int) != (vs.length : Int)) = true := by rw [bne_iff_ne]; omega
    clear g1
    go_wp2
    go_ret
    exact ⟨by rw [unhide HN]; rfl, unhide HK⟩
  by_cases g2 : ys.length = rs.length
  case neg =>
    have HN := hide (show envB vs fs rs true xs ys = false by rw [unhide HE]; exact fit_len (fun h => g2 h.2))
    have g3 : ((xs.length : Int) != (vs.length : Int)) = false := by rw [bne_eq_false_iff_eq]; omega
    have g4 : ((ys.length : Int) != (rs.length : Int)) = true := by rw [bne_iff_ne]; omega
    clear g1 g2
    go_wp2
    go_ret
    exact ⟨by rw [unhide HN]; rfl, unhide HK⟩
  rw [fit_true g1 g2] at HE
  have g3 : ((xs.length : Int) != (vs.length : Int)) = false := by rw [bne_eq_false_iff_eq]; omega
  have g4 : ((ys.length : Int) != (rs.length : Int)) = false := by rw [bne_eq_false_iff_eq]; omega
  have hL : xs.length + ys.length ≤ 7 := by omega
  clear g1 g2
  go_wp2_with fail
  refine (l6List_c true e1 e2 d1 d2 xs ys _ ((unhide HX).call (unhide HK)) ((unhide HY).call (unhide HK)) (by omega)).mono ?_
  rintro e u2 ⟨oa, cap, rfl, R, kb⟩
  have HR2 := hide R
  have HK := hide ((unhide HK).trans (kb.mono (unhide HK).size))
  have HN := hide (show xs.length + ys.length = (xs ++ ys).length by rw [List.length_append])
  clear R kb b0 b2 t0 t1 t2
  generalize xs ++ ys = zs at HE HR2 HN
  generalize xs.length + ys.length = L at hL HN ⊢
  have hL' : (L : Int) ≤ 7 := by omega
  go_wp2
  go_loopw [6] (fun i wr => ∃ k : Nat, k ≤ L ∧ i = .int .i64 k ∧ (∀ j, (h : j < zs.length) → j < k → zs[j].1 ≤ zs[j].2) ∧ Below w.heap.size w wr ∧ Ivs wr oa zs) (fun i _ => L - (intOf i).toNat)
  case atStart => exact ⟨0, Nat.zero_le _, rfl, fun j _ h => by omega, unhide HK, unhide HR2⟩
  case round =>
    clear HK HR2
    obtain ⟨k, hk, rfl, hall, hb, hz⟩ := hrel
    have HA := hide hall
    have HB := hide hb
    have HS := hide hz
    by_cases hlt : k < L
    · have hk' : k < zs.length := by rw [← unhide HN]; exact hlt
      rcases hz.2 with h0 | ⟨cb, co, rfl, hc⟩
      · omega
      have c := (hc k hk').1
      have d := (hc k hk').2
      have HG := hide (show zs[k].1 ≤ zs[k].2 → ∀ j, (h : j < zs.length) → j < k + 1 → zs[j].1 ≤ zs[j].2 from fun e j h hj => by
        by_cases q : j = k
        · subst q; exact e
        · exact unhide HA j h (by omega))
      have HF1 := hide (show ¬ zs[k].1 ≤ zs[k].2 → decide (ivsP zs) = false from fun e => decide_eq_false (fun h => e (h k hk')))
      clear hc hall hb hz
      generalize zs[k].1 = x at c HG HF1
      generalize zs[k].2 = y at d HG HF1
      go_wp2_with fail
      refine (sIvOk_c _ _ _).mono ?_
      rintro e u3 ⟨rfl, kb⟩
      have HB2 := hide ((unhide HB).trans (kb.mono (unhide HB).size))
      have HS2 := hide ((unhide HS).call kb)
      clear kb c d
      cases ho : okB x y
      · have HN2 := hide (show envB vs fs rs true xs ys = false by rw [unhide HE]; exact unhide HF1 (Int.not_le.1 (of_decide_eq_false ho)))
        clear ho
        go_wp2
        go_ret
        exact ⟨by rw [unhide HN2]; rfl, unhide HB2⟩
      · have HG2 := hide (unhide HG (of_decide_eq_true ho))
        clear ho HG HF1
        go_wp2
        go_roundw
        case rel => exact ⟨k + 1, by omega, by go_num, unhide HG2, unhide HB2, unhide HS2⟩
        case measure => simp [intOf]; omega
    · have HN2 := hide (show envB vs fs rs true xs ys = true by rw [unhide HE]; exact decide_eq_true (fun j hj => unhide HA j hj (by have := unhide HN; omega)))
      clear hall hb hz
      go_wp2
      go_ret
      exact ⟨by rw [unhide HN2]; rfl, unhide HB⟩
end Go.Proofs.YthldhjifnpfmiaaGreatDoor
