/- Right stores, as the specification asks for them. -/
import Derived.Test.YtcceeejmppamdaaDoorStoG
import Derived.Test.YtcceeejmppamdaaDoorEnvE
namespace Go.Proofs.YtcceeejmppamdaaDoor
open Go.RowKit
set_option linter.unusedSimpArgs false

/-- A store of a declaration that is right. -/
def stoP (m n : Nat) (rs : List (ByteArray × Int)) (is : List Int) (bs : List Bool) (js : List (List Int)) : Prop := is.length = m ∧ bs.length = n ∧ js.length = rs.length ∧ ∀ k, (h : k < rs.length) → ((js.getD k []).length : Int) = rs[k].2
instance (m n : Nat) (rs : List (ByteArray × Int)) (is : List Int) (bs : List Bool) (js : List (List Int)) : Decidable (stoP m n rs is bs js) := by unfold stoP; infer_instance
def storeB (vs fs : List ByteArray) (rs : List (ByteArray × Int)) (is : List Int) (bs : List Bool) (js : List (List Int)) : Bool := declB vs fs rs && decide (stoP vs.length fs.length rs is bs js)
set_option maxRecDepth 20000 in
set_option maxHeartbeats 4000000 in
theorem sStoreOk_c (a1 a2 a3 c1 c2 c3 : Nat) (vs fs : List ByteArray) (rs : List (ByteArray × Int)) (e1 e2 e3 d1 d2 d3 : Nat) (is : List Int) (bs : List Bool) (js : List (List Int)) (w : World) (hv : Strs w (some ⟨a1, 0, none⟩) vs) (hf : Strs w (some ⟨a2, 0, none⟩) fs) (hr : Arrs w (some ⟨a3, 0, none⟩) rs)
    (hz : ∀ x ∈ namesOf vs fs rs, x.size ≤ 1048576) (hj : Mats w (some ⟨e3, 0, none⟩) js) :
    Calls Tryd.prog 36 #[.agg #[.slice (some ⟨a1, 0, none⟩) vs.length c1, .slice (some ⟨a2, 0, none⟩) fs.length c2, .slice (some ⟨a3, 0, none⟩) rs.length c3], .agg #[.slice (some ⟨e1, 0, none⟩) is.length d1, .slice (some ⟨e2, 0, none⟩) bs.length d2, .slice (some ⟨e3, 0, none⟩) js.length d3]] w
    fun e w' => e = .returned (.bool (storeB vs fs rs is bs js)) ∧ Below w.heap.size w w' := by
  have HV := hide hv
  have HF := hide hf
  have HR := hide hr
  have HZ := hide hz
  have HJ := hide hj
  have T0 := (C3.new w (.slice (some ⟨a1, 0, none⟩) vs.length c1) (.slice (some ⟨a2, 0, none⟩) fs.length c2) (.slice (some ⟨a3, 0, none⟩) rs.length c3) 34).alloc (Obj.cells #[.slice (some ⟨e1, 0, none⟩) is.length d1, .slice (some ⟨e2, 0, none⟩) bs.length d2, .slice (some ⟨e3, 0, none⟩) js.length d3] 50)
  have T1 := C3.new (w.alloc (Obj.cells #[.slice (some ⟨a1, 0, none⟩) vs.length c1, .slice (some ⟨a2, 0, none⟩) fs.length c2, .slice (some ⟨a3, 0, none⟩) rs.length c3] 34)) (.slice (some ⟨e1, 0, none⟩) is.length d1) (.slice (some ⟨e2, 0, none⟩) bs.length d2) (.slice (some ⟨e3, 0, none⟩) js.length d3) 50
  have K0 : Below w.heap.size w ((w.alloc (Obj.cells #[.slice (some ⟨a1, 0, none⟩) vs.length c1, .slice (some ⟨a2, 0, none⟩) fs.length c2, .slice (some ⟨a3, 0, none⟩) rs.length c3] 34)).alloc (Obj.cells #[.slice (some ⟨e1, 0, none⟩) is.length d1, .slice (some ⟨e2, 0, none⟩) bs.length d2, .slice (some ⟨e3, 0, none⟩) js.length d3] 50)) := ((Below.refl _ _).alloc (Nat.le_refl _) _).alloc (by simp) _
  rw [show (w.alloc (Obj.cells #[.slice (some ⟨a1, 0, none⟩) vs.length c1, .slice (some ⟨a2, 0, none⟩) fs.length c2, .slice (some ⟨a3, 0, none⟩) rs.length c3] 34)).heap.size = w.heap.size + 1 by simp] at T1
  have HT0 := hide T0
  have HT1 := hide T1
  have HK := hide K0
  clear T0 T1 K0 hv hf hr hz hj
  go_enter Tryd.func36, Tryd.ntmps36
  go_wp2_with fail
  generalize (w.alloc (Obj.cells #[.slice (some ⟨a1, 0, none⟩) vs.length c1, .slice (some ⟨a2, 0, none⟩) fs.length c2, .slice (some ⟨a3, 0, none⟩) rs.length c3] 34)).alloc (Obj.cells #[.slice (some ⟨e1, 0, none⟩) is.length d1, .slice (some ⟨e2, 0, none⟩) bs.length d2, .slice (some ⟨e3, 0, none⟩) js.length d3] 50) = u at HT0 HT1 HK ⊢
  refine (sDeclOk_c a1 a2 a3 _ _ _ vs fs rs _ ((unhide HV).call (unhide HK)) ((unhide HF).call (unhide HK)) ((unhide HR).call (unhide HK)) (unhide HZ)).mono ?_
  rintro e u1 ⟨rfl, kb⟩
  have HT0 := hide ((unhide HT0).call kb)
  have HT1 := hide ((unhide HT1).call kb)
  have HK := hide ((unhide HK).trans (kb.mono (unhide HK).size))
  clear kb
  have HE := hide (show storeB vs fs rs is bs js = (declB vs fs rs && decide (stoP vs.length fs.length rs is bs js)) from rfl)
  cases hd : declB vs fs rs
  · rw [hd] at HE
    go_wp2
    go_ret
    exact ⟨by rw [unhide HE]; rfl, unhide HK⟩
  rw [hd, Bool.true_and] at HE
  obtain ⟨hl1, hl2, hl3⟩ := declB_len hd
  clear hd
  have b0 := (unhide HT0).1
  have b1 := (unhide HT0).2.1
  have b2 := (unhide HT0).2.2.1
  have t0 := (unhide HT1).1
  have t1 := (unhide HT1).2.1
  have t2 := (unhide HT1).2.2.1
  by_cases g1 : is.length = vs.length
  case neg =>
    have HN := hide (show storeB vs fs rs is bs js = false by rw [unhide HE]; exact decide_eq_false (fun h => g1 h.1))
    have g4 : ((is.length : Int) != (vs.length : Int)) = true := by rw [bne_iff_ne]; omega
    clear g1
    go_wp2
    go_ret
    exact ⟨by rw [unhide HN]; rfl, unhide HK⟩
  have g4 : ((is.length : Int) != (vs.length : Int)) = false := by rw [bne_eq_false_iff_eq]; omega
  by_cases g2 : bs.length = fs.length
  case neg =>
    have HN := hide (show storeB vs fs rs is bs js = false by rw [unhide HE]; exact decide_eq_false (fun h => g2 h.2.1))
    have g5 : ((bs.length : Int) != (fs.length : Int)) = true := by rw [bne_iff_ne]; omega
    clear g1 g2
    go_wp2
    go_ret
    exact ⟨by rw [unhide HN]; rfl, unhide HK⟩
  have g5 : ((bs.length : Int) != (fs.length : Int)) = false := by rw [bne_eq_false_iff_eq]; omega
  by_cases g3 : js.length = rs.length
  case neg =>
    have HN := hide (show storeB vs fs rs is bs js = false by rw [unhide HE]; exact decide_eq_false (fun h => g3 h.2.2.1))
    have g6 : ((js.length : Int) != (rs.length : Int)) = true := by rw [bne_iff_ne]; omega
    clear g1 g2 g3
    go_wp2
    go_ret
    exact ⟨by rw [unhide HN]; rfl, unhide HK⟩
  have g6 : ((js.length : Int) != (rs.length : Int)) = false := by rw [bne_eq_false_iff_eq]; omega
  have HG := hide (show (∀ k, (h : k < rs.length) → ((js.getD k []).length : Int) = rs[k].2) → storeB vs fs rs is bs js = true from fun h => by rw [unhide HE]; exact decide_eq_true ⟨g1, g2, g3, h⟩)
  have HG2 := hide (show ∀ k, (h : k < rs.length) → ((js.getD k []).length : Int) ≠ rs[k].2 → storeB vs fs rs is bs js = false from fun k h e => by rw [unhide HE]; exact decide_eq_false (fun hh => e (hh.2.2.2 k h)))
  have HJR := hide g3
  have hJ : js.length ≤ 2 := by omega
  have hJ' : (js.length : Int) ≤ 2 := by omega
  clear g1 g2 g3 HE
  go_wp2
  clear b0 b1 t0 t1 t2 b2 g4 g5 g6
  go_loopw [5] (fun i wr => ∃ k : Nat, k ≤ js.length ∧ i = .int .i64 k ∧ (∀ j, (h : j < rs.length) → j < k → ((js.getD j []).length : Int) = rs[j].2) ∧ Below u1.heap.size u1 wr) (fun i _ => js.length - (intOf i).toNat)
  case atStart => exact ⟨0, Nat.zero_le _, rfl, fun j _ h => by omega, Below.refl _ _⟩
  case round =>
    obtain ⟨k, hk, rfl, hall, hb⟩ := hrel
    have HA := hide hall
    have HB := hide ((unhide HK).trans (hb.mono (unhide HK).size))
    have HB1 := hide hb
    have b2 := ((unhide HT0).call hb).2.2.1
    have t2 := ((unhide HT1).call hb).2.2.1
    by_cases hlt : k < js.length
    · have hr' : k < rs.length := by rw [← unhide HJR]; exact hlt
      rcases (((unhide HJ).call (unhide HB))).2 with h0 | ⟨cb, co, e, hc⟩
      · omega
      cases e
      obtain ⟨ba, bc, q1, _⟩ := hc k hlt
      rcases (((unhide HR).call (unhide HB))).2 with h0 | ⟨cb, co, e, hc2⟩
      · omega
      cases e
      have q2 := (hc2 k hr').2
      rw [Nat.zero_add] at q1 q2
      have ek : js.getD k [] = js[k] := by simp [List.getD, hlt]
      have HI := hide (show (js[k].length : Int) = rs[k].2 → ∀ j, (h : j < rs.length) → j < k + 1 → ((js.getD j []).length : Int) = rs[j].2 from fun e j h hj => by
        by_cases q : j = k
        · subst q; rw [ek]; exact e
        · exact unhide HA j h (by omega))
      have HX := hide (show (js[k].length : Int) ≠ rs[k].2 → storeB vs fs rs is bs js = false from fun e => unhide HG2 k hr' (by rw [ek]; exact e))
      have ml : js[k].length ≤ 1048576 := by
        obtain ⟨_, _, _, qi⟩ := hc k hlt
        exact qi.1
      clear hc hc2 hall hb ek
      generalize js[k].length = x at q1 HI HX ml
      generalize rs[k].2 = z at q2 HI HX
      have ml' : (x : Int) ≤ 1048576 := by omega
      by_cases hx : (x : Int) = z
      · have HI2 := hide (unhide HI hx)
        have hx2 : ((x : Int) != z) = false := by rw [bne_eq_false_iff_eq]; exact hx
        clear HI HX hx
        go_wp2
        go_quiet (fail)
        go_wp2
        go_roundw
        case rel => exact ⟨k + 1, by omega, by go_num, unhide HI2, (unhide HB1).trans ((bdrew _ _).mono (unhide HB1).size)⟩
        case measure => simp [intOf]; omega
      · have HN := hide (unhide HX hx)
        have hx2 : ((x : Int) != z) = true := by rw [bne_iff_ne]; exact hx
        clear HI HX hx
        go_wp2
        go_quiet (fail)
        go_wp2
        go_ret
        exact ⟨by rw [unhide HN]; rfl, (unhide HB).trans ((bdrew _ _).mono (unhide HB).size)⟩
    · have HN := hide (unhide HG (fun j hj => unhide HA j hj (by have := unhide HJR; omega)))
      clear hall hb
      go_wp2
      go_ret
      exact ⟨by rw [unhide HN]; rfl, unhide HB⟩
end Go.Proofs.YtcceeejmppamdaaDoor
