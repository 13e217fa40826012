/- Texts that go together: SamS, SamT. -/
import Derived.Test.YtpdnnpnclgcpoaaDoorHaZ
import Derived.Deep.DeepCutAuto
/- Are two rows of numbers the same? -/
namespace Go.Proofs.YtpdnnpnclgcpoaaDoor
open Go.RowKit
set_option linter.unusedSimpArgs false
set_option linter.unusedVariables false

set_option maxHeartbeats 1000000 in
theorem sameInts_c (a b : Option Addr) (c d : Nat) (zs zt : List Int) (w : World) (h : Ints w a zs) (h2 : Ints w b zt) : Calls Tryd.prog 77 #[.slice a zs.length c, .slice b zt.length d] w fun e w' => e = .returned (.bool (decide (zs = zt))) ∧ Below w.heap.size w w' := by
  have hl := h.1
  have hm := h2.1
  obtain ⟨r, hr⟩ : ∃ r, r = decide (zs = zt) := ⟨_, rfl⟩
  obtain ⟨L, hL⟩ : ∃ L, L = zs.length := ⟨_, rfl⟩
  obtain ⟨M, hM⟩ : ∃ M, M = zt.length := ⟨_, rfl⟩
  rw [← hr]
  rw [← hL] at hl ⊢
  rw [← hM] at hm ⊢
  have HR := hide hr
  have HL := hide hL
  have HM := hide hM
  have HH := hide h
  have HG := hide h2
  have hl' : (L : Int) ≤ 1048576 := by omega
  have hm' : (M : Int) ≤ 1048576 := by omega
  clear h h2 hL hM hr
  by_cases hc : L = M
  · subst hc
    go_enter Tryd.func77, Tryd.ntmps77
    go_wp2
    go_loopw [5] (fun i wr => ∃ k : Nat, k ≤ L ∧ i = .int .i64 k ∧ (∀ j, (hj : j < zs.length) → (hj2 : j < zt.length) → j < k → zs[j] = zt[j]) ∧ Below w.heap.size w wr) (fun i _ => L - (intOf i).toNat)
    case atStart => exact ⟨0, Nat.zero_le _, rfl, fun j _ _ h0 => by omega, Below.refl _ _⟩
    case round =>
      obtain ⟨k, hk, rfl, hd, hb⟩ := hrel
      have HD := hide hd
      have HB := hide hb
      clear hd
      by_cases hlt : k < L
      · have hk' : k < zs.length := by rw [← unhide HL]; exact hlt
        have hm2 : k < zt.length := by rw [← unhide HM]; exact hlt
        obtain ⟨s, hs⟩ : ∃ s, s = zs[k] := ⟨_, rfl⟩
        obtain ⟨t, ht⟩ : ∃ t, t = zt[k] := ⟨_, rfl⟩
        rcases ((unhide HH).call hb).2 with h0 | ⟨cb, co, rfl, hc⟩
        · omega
        rcases ((unhide HG).call hb).2 with h0 | ⟨eb, eo, rfl, he⟩
        · omega
        have c1 := hc k hk'
        have k1 := he k hm2
        rw [← hs] at c1
        rw [← ht] at k1
        have P1 := hide hs
        have P2 := hide ht
        have hh : H2 w ⟨cb, co + k, none⟩ ⟨eb, eo + k, none⟩ (.int .i64 s) (.int .i64 t) wr := ⟨c1, k1, hb⟩
        clear hs ht hc he hb
        have bad : Hid (¬ s = t → r = false) := fun hne => by
          rw [unhide HR]
          exact decide_eq_false (fun e => hne (by rw [unhide P1, unhide P2]; subst e; rfl))
        by_cases g1 : s = t
        · subst g1
          go_wp2
          go_region_held3 (H2 w ⟨cb, co + k, none⟩ ⟨eb, eo + k, none⟩ (.int .i64 s) (.int .i64 s))
            (first | assumption | exact H2.drew (by assumption))
            (fail)
          rename_i hH
          have HQ := hide hH.2.2
          clear hH hh
          go_wp2
          go_roundw
          case rel => exact ⟨k + 1, by omega, by go_num, fun j hj hj2 h1 => by
            by_cases e : j = k
            · subst e; rw [← unhide P1, ← unhide P2]
            · exact unhide HD j hj hj2 (by omega), unhide HQ⟩
          case measure => simp [intOf]; omega
        · have g3 : (s == t) = false := by simpa using g1
          have E := hide (bad.out g1)
          go_wp2
          go_region_held3 (H2 w ⟨cb, co + k, none⟩ ⟨eb, eo + k, none⟩ (.int .i64 s) (.int .i64 t))
            (first | assumption | exact H2.drew (by assumption))
            (fail)
          rename_i hH
          have HQ := hide hH.2.2
          clear hH hh
          go_wp2
          go_ret
          exact ⟨by rw [E.out]; rfl, unhide HQ⟩
      · have ek : k = L := by omega
        subst ek
        have E := hide (show r = true by
          rw [unhide HR]
          exact decide_eq_true (List.ext_getElem (by rw [← unhide HL, ← unhide HM]) (fun j h1 h2 => unhide HD j h1 h2 (by rw [unhide HL]; exact h1))))
        have hlt' : ¬ ((k : Int) < (k : Int)) := by omega
        clear hb
        go_wp2
        go_ret
        exact ⟨by rw [E.out]; rfl, unhide HB⟩
  · have E := hide (show r = false by rw [unhide HR]; exact decide_eq_false (fun e => hc (by rw [unhide HL, unhide HM, e])))
    have g3 : ((L : Int) == (M : Int)) = false := by rw [beq_eq_false_iff_ne]; omega
    go_enter Tryd.func77, Tryd.ntmps77
    go_wp2
    go_ret
    exact ⟨by rw [E.out]; rfl, Below.refl _ _⟩
end Go.Proofs.YtpdnnpnclgcpoaaDoor

/- Are two stores the same? -/
namespace Go.Proofs.YtpdnnpnclgcpoaaDoor
open Go.RowKit
set_option linter.unusedSimpArgs false
set_option linter.unusedVariables false

def samS (is is2 : List Int) (bs bs2 : List Bool) (js js2 : List (List Int)) : Bool := decide (is = is2) && (decide (bs = bs2) && decide (js = js2))
set_option maxRecDepth 20000 in
set_option maxHeartbeats 8000000 in
theorem sameStore_c (a1 a2 a3 a4 a5 a6 : Option Addr) (c1 c2 c3 c4 c5 c6 : Nat) (is is2 : List Int) (bs bs2 : List Bool) (js js2 : List (List Int)) (w : World) (hi : Ints w a1 is) (hb : Bools w a2 bs) (hj : Mats w a3 js) (hi2 : Ints w a4 is2) (hb2 : Bools w a5 bs2) (hj2 : Mats w a6 js2) (lb : bs.length = bs2.length) (lj : js.length = js2.length) :
    Calls Tryd.prog 31 #[.agg #[.slice a1 is.length c1, .slice a2 bs.length c2, .slice a3 js.length c3], .agg #[.slice a4 is2.length c4, .slice a5 bs2.length c5, .slice a6 js2.length c6]] w fun e w' => e = .returned (.bool (samS is is2 bs bs2 js js2)) ∧ Below w.heap.size w w' := by
  have HI := hide hi
  have HB0 := hide hb
  have HJ := hide hj
  have HI2 := hide hi2
  have HB2 := hide hb2
  have HJ2 := hide hj2
  have hbl : (bs.length : Int) ≤ 1048576 := by have := hb.1; omega
  have hjl : (js.length : Int) ≤ 1048576 := by have := hj.1; omega
  have LB := hide lb
  have LJ := hide lj
  have T0 := (C3.new w (.slice a1 is.length c1) (.slice a2 bs.length c2) (.slice a3 js.length c3) 35).alloc (Obj.cells #[.slice a4 is2.length c4, .slice a5 bs2.length c5, .slice a6 js2.length c6] 35)
  have T1 := C3.new (w.alloc (Obj.cells #[.slice a1 is.length c1, .slice a2 bs.length c2, .slice a3 js.length c3] 35)) (.slice a4 is2.length c4) (.slice a5 bs2.length c5) (.slice a6 js2.length c6) 35
  have K0 : Below w.heap.size w ((w.alloc (Obj.cells #[.slice a1 is.length c1, .slice a2 bs.length c2, .slice a3 js.length c3] 35)).alloc (Obj.cells #[.slice a4 is2.length c4, .slice a5 bs2.length c5, .slice a6 js2.length c6] 35)) := ((Below.refl _ _).alloc (Nat.le_refl _) _).alloc (by simp) _
  rw [show (w.alloc (Obj.cells #[.slice a1 is.length c1, .slice a2 bs.length c2, .slice a3 js.length c3] 35)).heap.size = w.heap.size + 1 by simp] at T1
  have HT0 := hide T0
  have HT1 := hide T1
  have HK := hide K0
  clear hi hb hj hi2 hb2 hj2 T0 T1 K0 lb lj
  obtain ⟨r, hr⟩ : ∃ r, r = samS is is2 bs bs2 js js2 := ⟨_, rfl⟩
  rw [← hr]
  have HRR := hide hr
  clear hr
  go_enter Tryd.func31, Tryd.ntmps31
  go_upto_region 1 with fail
  generalize (w.alloc (Obj.cells #[.slice a1 is.length c1, .slice a2 bs.length c2, .slice a3 js.length c3] 35)).alloc (Obj.cells #[.slice a4 is2.length c4, .slice a5 bs2.length c5, .slice a6 js2.length c6] 35) = u at HT0 HT1 HK ⊢
  have t0 := (unhide HT0).1
  have u0 := (unhide HT1).1
  go_wp2_with fail
  refine (sameInts_c _ _ _ _ is is2 _ ((unhide HI).call (unhide HK)) ((unhide HI2).call (unhide HK))).mono ?_
  rintro e v1 ⟨rfl, kb⟩
  have HT0 := hide ((unhide HT0).call kb)
  have HT1 := hide ((unhide HT1).call kb)
  have HK := hide ((unhide HK).trans (kb.mono (unhide HK).size))
  clear kb t0 u0
  have t1 := (unhide HT0).2.1
  have t2 := (unhide HT0).2.2.1
  have u1 := (unhide HT1).2.1
  have u2 := (unhide HT1).2.2.1
  rw [← unhide LB] at u1 ⊢
  rw [← unhide LJ] at u2 ⊢
  by_cases hx : is = is2
  case neg =>
    have hx' : decide (is = is2) = false := decide_eq_false hx
    have HE := hide (show r = false by rw [unhide HRR]; unfold samS; rw [hx']; rfl)
    rw [hx']
    clear hx
    go_wp2
    go_ret
    exact ⟨by rw [unhide HE]; rfl, unhide HK⟩
  have hx' : decide (is = is2) = true := decide_eq_true hx
  have HE0 := hide hx'
  rw [hx']
  clear hx hx'
  go_wp2
  go_loopw [5] (fun i wr => ∃ k : Nat, k ≤ bs.length ∧ i = .int .i64 k ∧ (∀ j, (hj : j < bs.length) → (hj2 : j < bs2.length) → j < k → bs[j] = bs2[j]) ∧ Below v1.heap.size v1 wr) (fun i _ => bs.length - (intOf i).toNat)
  case atStart => exact ⟨0, Nat.zero_le _, rfl, fun j _ _ h0 => by omega, Below.refl _ _⟩
  case round =>
    obtain ⟨k, hk, rfl, hd, hb⟩ := hrel
    have HDD := hide hd
    have HB := hide hb
    have HKR := hide ((unhide HK).trans (hb.mono (unhide HK).size))
    have m1 := ((unhide HT0).call hb).2.1
    have n1 := ((unhide HT1).call hb).2.1
    rw [← unhide LB] at n1
    clear hd t1 t2 u1 u2
    have t1 := m1
    have u1 := n1
    clear m1 n1
    by_cases hlt : k < bs.length
    · have hk2 : k < bs2.length := by rw [← unhide LB]; exact hlt
      rcases ((unhide HB0).call (unhide HKR)).2 with h0 | ⟨cb, co, rfl, hc⟩
      · omega
      rcases ((unhide HB2).call (unhide HKR)).2 with h0 | ⟨eb, eo, rfl, he⟩
      · omega
      have y1 := hc k hlt
      have y2 := he k hk2
      obtain ⟨s, hs⟩ : ∃ s, s = bs[k] := ⟨_, rfl⟩
      obtain ⟨t, ht⟩ : ∃ t, t = bs2[k] := ⟨_, rfl⟩
      rw [← hs] at y1
      rw [← ht] at y2
      have P1 := hide hs
      have P2 := hide ht
      have hh : H4 v1 ⟨w.heap.size, 1, none⟩ ⟨w.heap.size + 1, 1, none⟩ ⟨cb, co + k, none⟩ ⟨eb, eo + k, none⟩ (.slice (some ⟨cb, co, none⟩) bs.length c2) (.slice (some ⟨eb, eo, none⟩) bs.length c5) (.bool s) (.bool t) wr := ⟨t1, u1, y1, y2, hb⟩
      have hlt' : (k : Int) < (bs.length : Int) := by omega
      have bad : Hid (¬ s = t → r = false) := fun hne => by
        rw [unhide HRR]
        unfold samS
        rw [decide_eq_false (show ¬ bs = bs2 from fun e => hne (by rw [unhide P1, unhide P2]; subst e; rfl))]
        simp
      clear hc he hs ht hb
      go_upto_region 6 with fail
      clear t1 u1 y1 y2
      go_region_held3 (H4 v1 ⟨w.heap.size, 1, none⟩ ⟨w.heap.size + 1, 1, none⟩ ⟨cb, co + k, none⟩ ⟨eb, eo + k, none⟩ (.slice (some ⟨cb, co, none⟩) bs.length c2) (.slice (some ⟨eb, eo, none⟩) bs.length c5) (.bool s) (.bool t))
        (first | assumption | exact H4.drew (by assumption))
        (fail)
      rename_i hH
      have HQ := hide hH.2.2.2.2
      clear hH hh
      cases s <;> cases t
      case false.true =>
        go_wp2
        go_ret
        exact ⟨by rw [bad.out (by simp)]; rfl, (unhide HK).trans ((unhide HQ).mono (unhide HK).size)⟩
      case true.false =>
        go_wp2
        go_ret
        exact ⟨by rw [bad.out (by simp)]; rfl, (unhide HK).trans ((unhide HQ).mono (unhide HK).size)⟩
      all_goals
        go_wp2
        go_roundw
        case rel => exact ⟨k + 1, by omega, by go_num, fun j hj hj2 h1 => by
          by_cases e : j = k
          · subst e; rw [← unhide P1, ← unhide P2]
          · exact unhide HDD j hj hj2 (by omega), unhide HQ⟩
        case measure => simp [intOf]; omega
    · have ek : k = bs.length := by omega
      subst ek
      have hlt' : ¬ ((bs.length : Int) < (bs.length : Int)) := by omega
      have HBE := hide (show decide (bs = bs2) = true from decide_eq_true (List.ext_getElem (unhide LB) (fun j h1 h2 => unhide HDD j h1 h2 h1)))
      have t2 := ((unhide HT0).call hb).2.2.1
      have u2 := ((unhide HT1).call hb).2.2.1
      rw [← unhide LJ] at u2
      clear hb
      have HKR := hide (unhide HKR)
      go_wp2
      go_loopw [6] (fun i wr => ∃ k : Nat, k ≤ js.length ∧ i = .int .i64 k ∧ (∀ j, (hj : j < js.length) → (hj2 : j < js2.length) → j < k → js[j] = js2[j]) ∧ Below v1.heap.size v1 wr) (fun i _ => js.length - (intOf i).toNat)
      case atStart => exact ⟨0, Nat.zero_le _, rfl, fun j _ _ h0 => by omega, unhide HB⟩
      case round =>
        obtain ⟨k, hk, rfl, hd, hb⟩ := hrel
        have HDJ := hide hd
        have HB := hide hb
        have HKR := hide ((unhide HK).trans (hb.mono (unhide HK).size))
        have m1 := ((unhide HT0).call hb).2.2.1
        have n1 := ((unhide HT1).call hb).2.2.1
        rw [← unhide LJ] at n1
        clear hd t1 u1 t2 u2
        have t2 := m1
        have u2 := n1
        clear m1 n1
        by_cases hlj : k < js.length
        · have hk2 : k < js2.length := by rw [← unhide LJ]; exact hlj
          rcases ((unhide HJ).call (unhide HKR)).2 with h0 | ⟨cb, co, rfl, hc⟩
          · omega
          rcases ((unhide HJ2).call (unhide HKR)).2 with h0 | ⟨eb, eo, rfl, he⟩
          · omega
          obtain ⟨rb, rc, y1, hr1⟩ := hc k hlj
          obtain ⟨sb, sc, y2, hr2⟩ := he k hk2
          have P1 := hide (show js[k] = js[k] from rfl)
          obtain ⟨R, hR⟩ : ∃ R, R = js[k] := ⟨_, rfl⟩
          obtain ⟨T, hT⟩ : ∃ T, T = js2[k] := ⟨_, rfl⟩
          rw [← hR] at y1 hr1
          rw [← hT] at y2 hr2
          have P1 := hide hR
          have P2 := hide hT
          have H1 := hide hr1
          have H2' := hide hr2
          have hh : H4 wr ⟨w.heap.size, 2, none⟩ ⟨w.heap.size + 1, 2, none⟩ ⟨cb, co + k, none⟩ ⟨eb, eo + k, none⟩ (.slice (some ⟨cb, co, none⟩) js.length c3) (.slice (some ⟨eb, eo, none⟩) js.length c6) (.slice rb R.length rc) (.slice sb T.length sc) wr := ⟨t2, u2, y1, y2, Below.refl _ _⟩
          have hlj' : (k : Int) < (js.length : Int) := by omega
          have bad : Hid (¬ R = T → r = false) := fun hne => by
            rw [unhide HRR]
            unfold samS
            rw [decide_eq_false (show ¬ js = js2 from fun e => hne (by rw [unhide P1, unhide P2]; subst e; rfl))]
            simp
          have KS : Hid (∀ w, Ints w rb R → Ints w sb T → Calls Tryd.prog 77 #[.slice rb R.length rc, .slice sb T.length sc] w fun e w' => e = .returned (.bool (decide (R = T))) ∧ Below w.heap.size w w') := fun w h1 h2 => sameInts_c rb sb rc sc R T w h1 h2
          clear hc he hR hT hb hr1 hr2
          obtain ⟨q, hq0⟩ : ∃ q, q = decide (R = T) := ⟨_, rfl⟩
          have HQ0 := hide hq0
          rw [← hq0] at KS
          clear hq0
          go_upto_region 11 with fail
          clear t2 u2 y1 y2
          go_region_held3 (H4 wr ⟨w.heap.size, 2, none⟩ ⟨w.heap.size + 1, 2, none⟩ ⟨cb, co + k, none⟩ ⟨eb, eo + k, none⟩ (.slice (some ⟨cb, co, none⟩) js.length c3) (.slice (some ⟨eb, eo, none⟩) js.length c6) (.slice rb R.length rc) (.slice sb T.length sc))
            (first | exact hq5 | assumption | exact H4.drew (by assumption))
            (first | (go_at_call 77; refine ((unhide KS) _ ((unhide H1).call (Below.refl _ _).drew) ((unhide H2').call (Below.refl _ _).drew)).mono ?_; rintro e v5 ⟨rfl, hb5⟩; have hq5 := H4.call hb5 (H4.drew hh)))
          rename_i hH
          have HQ := hide ((unhide HB).trans (hq5.2.2.2.2.mono (unhide HB).size))
          clear hH hh hq5 hb5
          cases q
          · have hne : ¬ R = T := of_decide_eq_false (unhide HQ0).symm
            have HE := hide (bad.out hne)
            clear hne
            go_wp2
            go_ret
            exact ⟨by rw [unhide HE]; rfl, (unhide HK).trans ((unhide HQ).mono (unhide HK).size)⟩
          · have HEQ := hide (of_decide_eq_true (unhide HQ0).symm)
            go_wp2
            go_roundw
            case rel => exact ⟨k + 1, by omega, by go_num, fun j hj hj2 h1 => by
              by_cases e : j = k
              · subst e; rw [← unhide P1, ← unhide P2]; exact unhide HEQ
              · exact unhide HDJ j hj hj2 (by omega), unhide HQ⟩
            case measure => simp [intOf]; omega
        · have ek : k = js.length := by omega
          subst ek
          have hlj' : ¬ ((js.length : Int) < (js.length : Int)) := by omega
          have HE := hide (show r = true by
            rw [unhide HRR]
            unfold samS
            rw [unhide HE0, unhide HBE, decide_eq_true (List.ext_getElem (unhide LJ) (fun j h1 h2 => unhide HDJ j h1 h2 h1))]
            rfl)
          clear hb
          go_wp2
          go_ret
          exact ⟨by rw [unhide HE]; rfl, (unhide HK).trans ((unhide HB).mono (unhide HK).size)⟩
end Go.Proofs.YtpdnnpnclgcpoaaDoor

